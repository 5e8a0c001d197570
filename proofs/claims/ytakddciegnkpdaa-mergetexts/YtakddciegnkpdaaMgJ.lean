/- 'merge.Texts'. -/
import Derived.Test.YtakddciegnkpdaaMgI
namespace Go.Proofs.Ytakddciegnkpdaa
open Go.RowKit
set_option linter.unusedVariables false
set_option linter.unusedSimpArgs false
theorem own_pb {w : World} {B : Nat} {v : Value} {s : Str} (h : w.ownsRow B 5 1 v s.length (bv s)) : ∃ a cap, v = .slice a s.length cap ∧ PB w a cap s ∧ ∀ p : Addr, a = some p → B ≤ p.block := by
  obtain ⟨hl, ⟨hv, e0⟩ | ⟨g, cap, cur, hv, hb, hh, hkc, hcm, hsz, htk⟩⟩ := h
  · exact ⟨none, 0, by rw [hv, e0], ⟨by omega, fun h => by omega, fun _ => rfl⟩, fun p hp => by cases hp⟩
  · refine ⟨some ⟨g, 0, none⟩, cap, hv, Mk.pb ⟨lt_of_some hh, hkc, fun j u hj => ?_, fun i h1 h2 => ⟨?_, ?_⟩⟩, fun p hp => by cases hp; exact hb⟩
    · rw [cell_of_row w g j _ _ _ hh]
      rw [← htk] at hj
      have hlt := (List.getElem?_eq_some_iff.1 hj).1
      rw [List.length_take] at hlt
      rw [List.getElem?_take_of_lt (by omega)] at hj
      simpa using hj
    · rw [cell_of_row w g i _ _ _ hh, Array.getElem?_eq_getElem (by omega)]
      rfl
    · exact frozen_of_row w g i _ _ hh
structure Qt (pt pn : Nat) (v x : Value) (W : World) : Prop where
  c0 : W.cell? ⟨pt, 0, none⟩ = some v
  c1 : W.cell? ⟨pn, 0, none⟩ = some x
set_option maxRecDepth 20000 in
set_option maxHeartbeats 2000000 in
theorem texts_any {w : World} (a0 : Option Addr) (c0 : Nat) (s : Str) (h0 : PB w a0 c0 s) (hs : s.length ≤ 3000) (a1 : Option Addr) (c1 : Nat) (t : Str) (h1 : PB w a1 c1 t) (ht : t.length ≤ 3000) (a2 : Option Addr) (c2 : Nat) (u : Str) (h2 : PB w a2 c2 u) (hu : u.length ≤ 3000) (a b : Str) (hab : a.length + b.length ≤ 3000) :
    Calls Try.prog 6 #[.slice a0 s.length c0, .slice a1 t.length c1, .slice a2 u.length c2, sV a, sV b] w (PostTx (mtx a b s t u) (mcn s t u) w) := by
  obtain ⟨T, HT⟩ : ∃ T, Hid (mtx a b s t u = T) := ⟨_, rfl⟩
  obtain ⟨N, HN⟩ : ∃ T, Hid (mcn s t u = T) := ⟨_, rfl⟩
  obtain ⟨n0, HN0⟩ : ∃ n, Hid (s.length = n) := ⟨_, rfl⟩
  obtain ⟨n1, HN1⟩ : ∃ n, Hid (t.length = n) := ⟨_, rfl⟩
  obtain ⟨n2, HN2⟩ : ∃ n, Hid (u.length = n) := ⟨_, rfl⟩
  obtain ⟨g, HG⟩ : ∃ g, Hid (w.heap.size = g) := ⟨_, rfl⟩
  obtain ⟨w1, HW1⟩ : ∃ x, Hid (w.alloc (.cells #[.string ⟨a.toArray⟩] 9) = x) := ⟨_, rfl⟩
  obtain ⟨w2, HW2⟩ : ∃ x, Hid (w1.alloc (.cells #[.string ⟨b.toArray⟩] 9) = x) := ⟨_, rfl⟩
  obtain ⟨w3, HW3⟩ : ∃ x, Hid (w2.alloc (.cells #[.slice none 0 0] 22) = x) := ⟨_, rfl⟩
  obtain ⟨w4, HW4⟩ : ∃ x, Hid (w3.alloc (.cells #[.int .i64 0] 3) = x) := ⟨_, rfl⟩
  have z1 : w1.heap.size = g + 1 := by rw [← HW1.out, ← HG.out]; exact size_alloc _ _
  have z2 : w2.heap.size = g + 1 + 1 := by rw [← HW2.out, ← z1]; exact size_alloc _ _
  have z3 : w3.heap.size = g + 1 + 1 + 1 := by rw [← HW3.out, ← z2]; exact size_alloc _ _
  have z4 : w4.heap.size = g + 1 + 1 + 1 + 1 := by rw [← HW4.out, ← z3]; exact size_alloc _ _
  have y1 : w4.heap[g]? = some (.cells #[.string ⟨a.toArray⟩] 9 (0, 0)) := by rw [← HW4.out]; refine heap_old _ _ _ _ ?_; rw [← HW3.out]; refine heap_old _ _ _ _ ?_; rw [← HW2.out]; refine heap_old _ _ _ _ ?_; rw [← HW1.out, ← HG.out]; exact heap_alloc_new _ _
  have y2 : w4.heap[g + 1]? = some (.cells #[.string ⟨b.toArray⟩] 9 (0, 0)) := by rw [← HW4.out]; refine heap_old _ _ _ _ ?_; rw [← HW3.out]; refine heap_old _ _ _ _ ?_; rw [← HW2.out, ← z1]; exact heap_alloc_new _ _
  have y3 : w4.heap[g + 1 + 1]? = some (.cells #[.slice none 0 0] 22 (0, 0)) := by rw [← HW4.out]; refine heap_old _ _ _ _ ?_; rw [← HW3.out, ← z2]; exact heap_alloc_new _ _
  have y4 : w4.heap[g + 1 + 1 + 1]? = some (.cells #[.int .i64 0] 3 (0, 0)) := by rw [← HW4.out, ← z3]; exact heap_alloc_new _ _
  have hb4 : Below g w w4 := by
    have b1 : Below g w w1 := by rw [← HW1.out, ← HG.out]; exact (Below.refl _ w).alloc (Nat.le_refl _) _
    have b2 : Below g w w2 := by rw [← HW2.out]; exact b1.alloc (by omega) _
    have b3 : Below g w w3 := by rw [← HW3.out]; exact b2.alloc (by omega) _
    rw [← HW4.out]
    exact b3.alloc (by omega) _
  have k4 : w4.cell? ⟨g + 1 + 1 + 1, 0, none⟩ = some (.int .i64 0) := by rw [cell_of_row _ (g + 1 + 1 + 1) 0 _ _ _ y4]; rfl
  have f4 : w4.frozen? ⟨g + 1 + 1 + 1, 0, none⟩ = false := frozen_of_row _ _ _ _ _ y4
  obtain ⟨w9, HW9⟩ : ∃ x, Hid (w4.setCell ⟨g + 1 + 1 + 1, 0, none⟩ (.int .i64 0) = x) := ⟨_, rfl⟩
  have x1 : w9.heap[g]? = some (.cells #[.string ⟨a.toArray⟩] 9 (0, 0)) := by rw [← HW9.out]; exact (Below.heap_setCell _ _ _ _ (by show g ≠ g + 1 + 1 + 1; omega)).trans y1
  have x2 : w9.heap[g + 1]? = some (.cells #[.string ⟨b.toArray⟩] 9 (0, 0)) := by rw [← HW9.out]; exact (Below.heap_setCell _ _ _ _ (by show g + 1 ≠ g + 1 + 1 + 1; omega)).trans y2
  have x3 : w9.heap[g + 1 + 1]? = some (.cells #[.slice none 0 0] 22 (0, 0)) := by rw [← HW9.out]; exact (Below.heap_setCell _ _ _ _ (by show g + 1 + 1 ≠ g + 1 + 1 + 1; omega)).trans y3
  have x4 : w9.heap[g + 1 + 1 + 1]? = some (.cells #[.int .i64 0] 3 (0, 0)) := by rw [← HW9.out]; exact heap_setCell_same _ _ 0 _ _ _ y4
  have z9 : w9.heap.size = g + 1 + 1 + 1 + 1 := by rw [← HW9.out, ← z4]; simp [World.setCell]
  have hb9 : Below g w w9 := by rw [← HW9.out]; exact hb4.setCell (by show g ≤ g + 1 + 1 + 1; omega) _
  have hSx : Sx w9 (g + 1 + 1 + 1 + 1) g (g + 1) (g + 1 + 1 + 1) (g + 1 + 1) a b (.slice none 0 0) [] 0 := {
    ca := by rw [cell_of_row _ g 0 _ _ _ x1]; rfl
    cb := by rw [cell_of_row _ (g + 1) 0 _ _ _ x2]; rfl
    cn := by rw [cell_of_row _ (g + 1 + 1 + 1) 0 _ _ _ x4]; rfl
    fn := frozen_of_row _ _ _ _ _ x4
    ct := by rw [cell_of_row _ (g + 1 + 1) 0 _ _ _ x3]; rfl
    ft := frozen_of_row _ _ _ _ _ x3
    own := World.ownsRow_nil _ _ _ _
    la := by omega
    lb := by omega
    ln := by omega
    lt := by omega
    na := by omega
    nb := by omega
    nn := by omega
    le := by omega }
  have C10 : Hid (Calls Try.prog 10 #[.agg #[.slice a0 n0 c0, .slice a1 n1 c1, .slice a2 n2 c2], .func (.func 11) #[] #[.pointer (some ⟨g, 0, none⟩), .pointer (some ⟨g + 1, 0, none⟩), .pointer (some ⟨g + 1 + 1 + 1, 0, none⟩), .pointer (some ⟨g + 1 + 1, 0, none⟩)]] w9 (PostC w9 g g (g + 1) (g + 1 + 1 + 1) (g + 1 + 1) a b T N)) := hid (by
    rw [← HN0.out, ← HN1.out, ← HN2.out, ← HT.out, ← HN.out]
    exact cut_any hSx (by omega) a0 c0 s (h0.below (by rw [HG.out]; exact hb9)) hs a1 c1 t (h1.below (by rw [HG.out]; exact hb9)) ht a2 c2 u (h2.below (by rw [HG.out]; exact hb9)) hu (fun h p hp => by rw [← HG.out]; exact h0.lt h p hp) (fun h p hp => by rw [← HG.out]; exact h1.lt h p hp) (fun h p hp => by rw [← HG.out]; exact h2.lt h p hp) hab)
  have HB4 := hid hb9
  have al1 : w.alloc (.cells #[.string ⟨a.toArray⟩] 9) = w1 := HW1.out
  have al2 : w1.alloc (.cells #[.string ⟨b.toArray⟩] 9) = w2 := HW2.out
  have al3 : w2.alloc (.cells #[.slice none 0 0] 22) = w3 := HW3.out
  have al4 : w3.alloc (.cells #[.int .i64 0] 3) = w4 := HW4.out
  have al5 : w4.setCell ⟨g + 1 + 1 + 1, 0, none⟩ (.int .i64 0) = w9 := HW9.out
  rw [HN0.out, HN1.out, HN2.out, HT.out, HN.out]
  unfold sV
  clear h0 h1 h2 hs ht hu hab hSx hb4 hb9 y1 y2 y3 y4 z4 z9 x1 x2 x3 x4
  go_enter Try.func6, Try.ntmps6
  go_wp2_with fail
  rw [HG.out]
  refine C10.out.mono ?_
  rintro e w5 ⟨rfl, H, v, hsx, hlo, hbl⟩
  obtain ⟨va, vc, rfl, hpb, hva⟩ := own_pb hsx.own
  have HBF : Hid (Below w.heap.size w w5.drew) := hid (by rw [HG.out]; exact (HB4.out.trans hbl).trans ⟨rfl, rfl, rfl, Nat.le_refl _, fun _ _ => rfl⟩)
  have HPF : Hid (PB w5.drew va vc T) := hid (hpb.below ⟨rfl, rfl, rfl, Nat.le_refl _, fun _ _ => rfl⟩)
  have HVF : Hid (∀ p : Addr, va = some p → w.heap.size ≤ p.block) := hid (fun p hp => by rw [HG.out]; exact Nat.le_trans hlo (hva p hp))
  have hS0 : Qt (g + 1 + 1) (g + 1 + 1 + 1) (.slice va T.length vc) (.int .i64 (N : Int)) w5.drew := ⟨hsx.ct, hsx.cn⟩
  clear hsx hpb hva hbl
  go_wp2_with fail
  refine wp_region_held_drew (S := Qt (g + 1 + 1) (g + 1 + 1 + 1) (.slice va T.length vc) (.int .i64 (N : Int))) (by kernel_rfl) hS0 (fun hHeld => ?_)
  clear hS0
  generalize w5.drew = w6 at hHeld HBF HPF ⊢
  refine takeL (i := 0) (v := ?_) rfl (by kernel_rfl) (by kernel_rfl) (by kernel_rfl) (fun _ _ _ h => h) (Or.inl ⟨by rfl, ?_⟩) hHeld ?_
  rotate_left
  · rintro w' ⟨d0, d1⟩; go_simp; rfl
  try simp only [Act.put, List.setIfInBounds_toArray, List.set_cons_zero, List.set_cons_succ]
  refine takeL (i := 1) (v := ?_) rfl (by kernel_rfl) (by kernel_rfl) (by kernel_rfl) (fun _ _ _ h => h) (Or.inl ⟨by rfl, ?_⟩) hHeld ?_
  rotate_left
  · rintro w' ⟨d0, d1⟩; go_simp; rfl
  try simp only [Act.put, List.setIfInBounds_toArray, List.set_cons_zero, List.set_cons_succ]
  refine takeL (i := 2) (v := ?_) rfl (by kernel_rfl) (by kernel_rfl) (by kernel_rfl) (fun _ _ _ h => h) (Or.inl ⟨by rfl, ?_⟩) hHeld ?_
  rotate_left
  · rintro w' ⟨d0, d1⟩; go_simp; rfl
  try simp only [Act.put, List.setIfInBounds_toArray, List.set_cons_zero, List.set_cons_succ]
  refine takeL (i := 3) (v := ?_) rfl (by kernel_rfl) (by kernel_rfl) (by kernel_rfl) (fun _ _ _ h => h) (Or.inl ⟨by rfl, ?_⟩) hHeld ?_
  rotate_left
  · rintro w' ⟨d0, d1⟩; go_simp; rfl
  try simp only [Act.put, List.setIfInBounds_toArray, List.set_cons_zero, List.set_cons_succ]
  refine wpAnyH_done (by kernel_rfl) ?_ _
  clear hHeld
  go_wp2
  go_ret2
  exact ⟨va, vc, rfl, HBF.out, HPF.out, HVF.out⟩
end Go.Proofs.Ytakddciegnkpdaa
