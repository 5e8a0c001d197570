/- 'cut'. -/
import Derived.Test.YtakddciegnkpdaaMgH
namespace Go.Proofs.Ytakddciegnkpdaa
open Go.RowKit
set_option linter.unusedVariables false
set_option linter.unusedSimpArgs false
structure Q3 (g : Nat) (v0 v1 v2 : Value) (W : World) : Prop where
  c0 : W.cell? ⟨g, 0, none⟩ = some v0
  c1 : W.cell? ⟨g, 1, none⟩ = some v1
  c2 : W.cell? ⟨g, 2, none⟩ = some v2
structure Qc (b1 o1 b2 o2 : Nat) (x y : Int) (W : World) : Prop where
  c1 : W.cell? ⟨b1, o1, none⟩ = some (.int .i64 x)
  c2 : W.cell? ⟨b2, o2, none⟩ = some (.int .i64 y)
theorem enter18 (x y : Value) (w : World) : (callFunc 18 #[x, y]).run Try.prog w = .ok (.enter 18 #[x, y]) w := by kernel_rfl
/-- What 'cut' leaves. -/
def PostC (w : World) (lo pa pb pn pt : Nat) (a b T : Str) (N : Nat) (e : Ending) (w' : World) : Prop :=
  e = .returned (.tuple #[]) ∧ ∃ H v, Sx w' H pa pb pn pt a b v T N ∧ lo ≤ H ∧ Below lo w w'
set_option maxRecDepth 20000 in
set_option maxHeartbeats 8000000 in
theorem cut_any {w : World} {B pa pb pn pt lo : Nat} {a b : Str} (hS : Sx w B pa pb pn pt a b (.slice none 0 0) [] 0) (hlo : lo ≤ pn ∧ lo ≤ pt ∧ lo ≤ pa ∧ lo ≤ pb) (a0 : Option Addr) (c0 : Nat) (s : Str) (h0 : PB w a0 c0 s) (hs : s.length ≤ 3000) (a1 : Option Addr) (c1 : Nat) (t : Str) (h1 : PB w a1 c1 t) (ht : t.length ≤ 3000) (a2 : Option Addr) (c2 : Nat) (u : Str) (h2 : PB w a2 c2 u) (hu : u.length ≤ 3000)
    (r0 : 0 < s.length → ∀ p : Addr, a0 = some p → p.block < lo) (r1 : 0 < t.length → ∀ p : Addr, a1 = some p → p.block < lo) (r2 : 0 < u.length → ∀ p : Addr, a2 = some p → p.block < lo) (hab : a.length + b.length ≤ 3000) :
    Calls Try.prog 10 #[.agg #[.slice a0 s.length c0, .slice a1 t.length c1, .slice a2 u.length c2], .func (.func 11) #[] #[.pointer (some ⟨pa, 0, none⟩), .pointer (some ⟨pb, 0, none⟩), .pointer (some ⟨pn, 0, none⟩), .pointer (some ⟨pt, 0, none⟩)]] w (PostC w lo pa pb pn pt a b (mtx a b s t u) (mcn s t u)) := by
  obtain ⟨A, HA⟩ : ∃ A, Hid (lns s = A) := ⟨_, rfl⟩
  obtain ⟨E, HE⟩ : ∃ E, Hid (edits (lns s) (lns t) = E) := ⟨_, rfl⟩
  obtain ⟨F, HF⟩ : ∃ E, Hid (edits (lns s) (lns u) = E) := ⟨_, rfl⟩
  obtain ⟨T, HT⟩ : ∃ T, Hid (mtx a b s t u = T) := ⟨_, rfl⟩
  obtain ⟨N, HN⟩ : ∃ T, Hid (mcn s t u = T) := ⟨_, rfl⟩
  obtain ⟨m, HM⟩ : ∃ m, Hid (A.length = m) := ⟨_, rfl⟩
  have hm : m ≤ 3000 := by rw [← HM.out, ← HA.out]; have := lns_few s; omega
  have hTl : T.length ≤ 20000000 := by rw [← HT.out]; exact mtx_len a b s t u hs ht hu hab
  have hNl : N ≤ 6001 := by rw [← HN.out]; exact mcn_le s t u hs
  have HKE : Hid ((sdK E).length = A.length) := hid (by rw [sdK_len, ← HE.out, (edits_A _ _).1, HA.out])
  have HKF : Hid ((sdK F).length = A.length) := hid (by rw [sdK_len, ← HF.out, (edits_A _ _).1, HA.out])
  have HLA : Hid (∀ i, (A.getD i []).length ≤ 3000) := hid (fun i => by rw [← HA.out]; exact Nat.le_trans (lns_at_short s i) hs)
  have HMD : Hid (Md a b A (sdK E) (sdI E) (sdK F) (sdI F) T N 0 [] [] [] [] 0) := hid (by
    unfold Md
    rw [← HT.out, ← HN.out, ← HA.out, ← HE.out, ← HF.out]
    exact ⟨rfl, (Nat.zero_add _).symm⟩)
  obtain ⟨L1, HL1⟩ : ∃ E, Hid (plcs 0 (edits (lns s) (lns t)) = E) := ⟨_, rfl⟩
  obtain ⟨L2, HL2⟩ : ∃ E, Hid (plcs 0 (edits (lns s) (lns u)) = E) := ⟨_, rfl⟩
  have HSD1 : Hid (Sd t A (sdK E) (sdI E) L1 0 0 []) := hid (by rw [← HL1.out, ← HE.out, ← HA.out]; exact sd_start s t)
  have HSD2 : Hid (Sd u A (sdK F) (sdI F) L2 0 0 []) := hid (by rw [← HL2.out, ← HF.out, ← HA.out]; exact sd_start s u)
  have HBS : Hid (Bs s A 0 0 []) := hid (by rw [← HA.out]; exact bs_start s)
  have HLL1 : Hid (L1.length = m) := hid (by rw [← HL1.out, plcs_len, (edits_A _ _).1, HA.out, HM.out])
  have HLL2 : Hid (L2.length = m) := hid (by rw [← HL2.out, plcs_len, (edits_A _ _).1, HA.out, HM.out])
  obtain ⟨n0, HN0⟩ : ∃ n, Hid (s.length = n) := ⟨_, rfl⟩
  obtain ⟨n1, HN1⟩ : ∃ n, Hid (t.length = n) := ⟨_, rfl⟩
  obtain ⟨n2, HN2⟩ : ∃ n, Hid (u.length = n) := ⟨_, rfl⟩
  have e0 : n0 ≤ 3000 := by rw [← HN0.out]; exact hs
  have e1 : n1 ≤ 3000 := by rw [← HN1.out]; exact ht
  have e2 : n2 ≤ 3000 := by rw [← HN2.out]; exact hu
  have ha : a.length ≤ 3000 := by omega
  have hb : b.length ≤ 3000 := by omega
  obtain ⟨g, HG⟩ : ∃ g, Hid (w.heap.size = g) := ⟨_, rfl⟩
  obtain ⟨w1, HW1⟩ : ∃ u, Hid (w.alloc (.cells #[.slice a0 n0 c0, .slice a1 n1 c1, .slice a2 n2 c2] 31) = u) := ⟨_, rfl⟩
  have HB1 : Hid (Below g w w1) := hid (by rw [← HW1.out, ← HG.out]; exact (Below.refl _ w).alloc (Nat.le_refl _) _)
  have hs1 : w1.heap.size = g + 1 := by rw [← HW1.out, ← HG.out]; exact size_alloc _ _
  have HY1 : Hid (w1.heap[g]? = some (.cells #[.slice a0 n0 c0, .slice a1 n1 c1, .slice a2 n2 c2] 31 (0, 0))) := hid (by rw [← HW1.out, ← HG.out]; exact heap_alloc_new _ _)
  have HQ3 : Hid (∀ W, W.heap[g]? = w1.heap[g]? → Q3 g (.slice a0 n0 c0) (.slice a1 n1 c1) (.slice a2 n2 c2) W) := fun W hW => by
    obtain ⟨p0, p1, p2⟩ := three_of (hW.trans HY1.out)
    exact ⟨p0, p1, p2⟩
  have CA : Hid (∀ W, Below g w W → Calls Try.prog 18 #[.slice a0 n0 c0, .slice a1 n1 c1] W (PostP L1 W)) := fun W hW => by
    rw [← HN0.out, ← HN1.out, ← HL1.out]
    exact places_any a0 c0 s (h0.below (by rw [HG.out]; exact hW)) (by omega) a1 c1 t (h1.below (by rw [HG.out]; exact hW)) (by omega)
  have CB : Hid (∀ W, Below g w W → Calls Try.prog 18 #[.slice a0 n0 c0, .slice a2 n2 c2] W (PostP L2 W)) := fun W hW => by
    rw [← HN0.out, ← HN2.out, ← HL2.out]
    exact places_any a0 c0 s (h0.below (by rw [HG.out]; exact hW)) (by omega) a2 c2 u (h2.below (by rw [HG.out]; exact hW)) (by omega)
  have CL : Hid (∀ W, Below g w W → Calls Try.prog 19 #[.slice a0 n0 c0] W (PostS A W)) := fun W hW => by
    rw [← HN0.out, ← HA.out]
    exact lines_any a0 c0 s (h0.below (by rw [HG.out]; exact hW)) (by omega)
  have HP0 : Hid (∀ W, Below g w W → PB W a0 c0 s) := fun W hW => h0.below (by rw [HG.out]; exact hW)
  have HP1 : Hid (∀ W, Below g w W → PB W a1 c1 t) := fun W hW => h1.below (by rw [HG.out]; exact hW)
  have HP2 : Hid (∀ W, Below g w W → PB W a2 c2 u) := fun W hW => h2.below (by rw [HG.out]; exact hW)
  have HR0 := hid r0
  have HR1 := hid r1
  have HR2 := hid r2
  have HSW : Hid (∀ W, Below g w W → Sx W B pa pb pn pt a b (.slice none 0 0) [] 0) := fun W hW => hS.below (by rw [HG.out]; exact hW)
  have HPN : Hid (pn < g ∧ pt < g ∧ pa < g ∧ pb < g ∧ B ≤ g) := hid (by
    have := hS.ln
    have := hS.lt
    have := hS.la
    have := hS.lb
    have := hS.le
    have := HG.out
    omega)
  have hc0 : n0 ≤ c0 := by rw [← HN0.out]; exact h0.capl
  have hc1 : n1 ≤ c1 := by rw [← HN1.out]; exact h1.capl
  have hc2 : n2 ≤ c2 := by rw [← HN2.out]; exact h2.capl
  rw [HN0.out, HN1.out, HN2.out, HT.out, HN.out]
  clear h0 h1 h2 hs ht hu r0 r1 r2 hS hab
  go_enter Try.func10, Try.ntmps10
  go_wp2_with fail
  rw [HW1.out, HG.out]
  have hHeld0 : Q3 g (.slice a0 n0 c0) (.slice a1 n1 c1) (.slice a2 n2 c2) w1.drew := HQ3.out w1.drew rfl
  refine wp_region_held_drew (S := Q3 g (.slice a0 n0 c0) (.slice a1 n1 c1) (.slice a2 n2 c2)) (by kernel_rfl) hHeld0 (fun hHeld => ?_)
  clear hHeld0
  have HBD : Hid (Below g w w1.drew) := hid (HB1.out.trans ⟨rfl, rfl, rfl, Nat.le_refl _, fun _ _ => rfl⟩)
  have HYD : Hid (w1.drew.heap[g]? = w1.heap[g]?) := hid rfl
  have hsd : w1.drew.heap.size = g + 1 := hs1
  generalize w1.drew = wd at hHeld HBD HYD hsd ⊢
  refine takeL (i := 0) (v := ?_) rfl (by kernel_rfl) (by kernel_rfl) (by kernel_rfl) (fun _ _ _ h => h) (Or.inl ⟨by rfl, ?_⟩) hHeld ?_
  rotate_left
  · rintro w' ⟨d0, d1, d2⟩; go_simp; rfl
  try simp only [Act.put, List.setIfInBounds_toArray, List.set_cons_zero, List.set_cons_succ]
  refine takeL (i := 1) (v := ?_) rfl (by kernel_rfl) (by kernel_rfl) (by kernel_rfl) (fun _ _ _ h => h) (Or.inl ⟨by rfl, ?_⟩) hHeld ?_
  rotate_left
  · rintro w' ⟨d0, d1, d2⟩; go_simp; rfl
  try simp only [Act.put, List.setIfInBounds_toArray, List.set_cons_zero, List.set_cons_succ]
  refine takeL (i := 2) (v := ?_) rfl (by kernel_rfl) (by kernel_rfl) (by kernel_rfl) (fun _ _ _ h => h) (Or.inl ⟨by rfl, ?_⟩) hHeld ?_
  rotate_left
  · rintro w' ⟨d0, d1, d2⟩; go_simp; rfl
  try simp only [Act.put, List.setIfInBounds_toArray, List.set_cons_zero, List.set_cons_succ]
  refine takeL (i := 3) (v := ?_) rfl (by kernel_rfl) (by kernel_rfl) (by kernel_rfl) (fun _ _ _ h => h) (Or.inl ⟨by rfl, ?_⟩) hHeld ?_
  rotate_left
  · rintro w' ⟨d0, d1, d2⟩; go_simp; rfl
  try simp only [Act.put, List.setIfInBounds_toArray, List.set_cons_zero, List.set_cons_succ]
  refine takeL (i := 5) (v := ?_) rfl (by kernel_rfl) (by kernel_rfl) (by kernel_rfl) (fun _ _ _ h => h) (Or.inl ⟨by rfl, ?_⟩) hHeld ?_
  rotate_left
  · rintro w' ⟨d0, d1, d2⟩; go_simp; rfl
  try simp only [Act.put, List.setIfInBounds_toArray, List.set_cons_zero, List.set_cons_succ]
  refine takeL (i := 6) (v := ?_) rfl (by kernel_rfl) (by kernel_rfl) (by kernel_rfl) (fun _ _ _ h => h) (Or.inl ⟨by rfl, ?_⟩) hHeld ?_
  rotate_left
  · rintro w' ⟨d0, d1, d2⟩; go_simp; rfl
  try simp only [Act.put, List.setIfInBounds_toArray, List.set_cons_zero, List.set_cons_succ]
  refine takeL (i := 7) (v := ?_) rfl (by kernel_rfl) (by kernel_rfl) (by kernel_rfl) (fun _ _ _ h => h) (Or.inl ⟨by rfl, ?_⟩) hHeld ?_
  rotate_left
  · rintro w' ⟨d0, d1, d2⟩; go_simp; rfl
  try simp only [Act.put, List.setIfInBounds_toArray, List.set_cons_zero, List.set_cons_succ]
  refine takeL (i := 8) (v := ?_) rfl (by kernel_rfl) (by kernel_rfl) (by kernel_rfl) (fun _ _ _ h => h) (Or.inl ⟨by rfl, ?_⟩) hHeld ?_
  rotate_left
  · rintro w' ⟨d0, d1, d2⟩; go_simp; rfl
  try simp only [Act.put, List.setIfInBounds_toArray, List.set_cons_zero, List.set_cons_succ]
  refine wpAnyH_ready (rs := [4]) (by kernel_rfl) (by simp) ?_
  refine consL rfl (fun KK hKK => ?_) AllReadyH.nil
  refine step_callv (by rfl) 18 [.tmp 12, .tmp 14] _ [.slice a0 n0 c0, .slice a1 n1 c1] _ (by rfl) (by rfl) (enter18 _ _) (CA.out _ HBD.out) ?_
  rintro ev w2 ⟨v2, rfl, hbo⟩
  obtain ⟨la1, lc1, rfl, hpo1, hla1, _⟩ := hbo.px (d := none) (fun x _ => encO_len x)
  rw [HLL1.out]
  have HBw2 : Hid (Below g w w2) := hid (HBD.out.trans (hbo.below.mono (by omega)))
  have HYw2 : Hid (w2.heap[g]? = w1.heap[g]?) := hid ((hbo.below.block g (by omega)).trans HYD.out)
  have HPO2 : Hid (PO w2 la1 lc1 L1) := hpo1
  have HLO2 : Hid (∀ p : Addr, la1 = some p → g < p.block ∧ p.block < w2.heap.size) := fun p hp => by have := hla1 p hp; omega
  have hsz2 : g < w2.heap.size := by have := hbo.below.size; omega
  clear hbo hpo1 hla1
  refine ⟨_, rfl, ?_⟩
  refine hKK.out _ _ (HQ3.out _ HYw2.out) (fun hHeld2 => ?_)
  clear hKK KK hHeld
  try simp only [Act.put, List.setIfInBounds_toArray, List.set_cons_zero, List.set_cons_succ]
  refine wpAnyH_ready (rs := [9]) (by kernel_rfl) (by simp) ?_
  refine consL rfl (fun KK hKK => ?_) AllReadyH.nil
  refine step_callv (by rfl) 18 [.tmp 17, .tmp 19] _ [.slice a0 n0 c0, .slice a2 n2 c2] _ (by rfl) (by rfl) (enter18 _ _) (CB.out _ HBw2.out) ?_
  rintro ev w3 ⟨v3, rfl, hbo⟩
  obtain ⟨la2, lc2, rfl, hpo2, hla2, _⟩ := hbo.px (d := none) (fun x _ => encO_len x)
  rw [HLL2.out]
  have HBw3 : Hid (Below g w w3) := hid (HBw2.out.trans (hbo.below.mono (by omega)))
  have HYw3 : Hid (w3.heap[g]? = w1.heap[g]?) := hid ((hbo.below.block g (by omega)).trans HYw2.out)
  have HPO31 : Hid (PO w3 la1 lc1 L1) := hid (HPO2.out.below hbo.below)
  have HLO31 : Hid (∀ p : Addr, la1 = some p → g < p.block ∧ p.block < w3.heap.size) := fun p hp => by have := HLO2.out p hp; have := hbo.below.size; omega
  have HPO32 : Hid (PO w3 la2 lc2 L2) := hpo2
  have HLO32 : Hid (∀ p : Addr, la2 = some p → g < p.block ∧ p.block < w3.heap.size) := fun p hp => by have := hla2 p hp; omega
  have hsz3 : g < w3.heap.size := by have := hbo.below.size; omega
  clear hbo hpo2 hla2
  refine ⟨_, rfl, ?_⟩
  refine hKK.out _ _ (HQ3.out _ HYw3.out) (fun hHeld3 => ?_)
  clear hKK KK hHeld2
  try simp only [Act.put, List.setIfInBounds_toArray, List.set_cons_zero, List.set_cons_succ]
  refine takeL (i := 10) (v := ?_) rfl (by kernel_rfl) (by kernel_rfl) (by kernel_rfl) (fun _ _ _ h => h) (Or.inl ⟨by rfl, ?_⟩) hHeld3 ?_
  rotate_left
  · rintro w' ⟨d0, d1, d2⟩; go_simp; rfl
  try simp only [Act.put, List.setIfInBounds_toArray, List.set_cons_zero, List.set_cons_succ]
  refine takeL (i := 11) (v := ?_) rfl (by kernel_rfl) (by kernel_rfl) (by kernel_rfl) (fun _ _ _ h => h) (Or.inl ⟨by rfl, ?_⟩) hHeld3 ?_
  rotate_left
  · rintro w' ⟨d0, d1, d2⟩; go_simp; rfl
  try simp only [Act.put, List.setIfInBounds_toArray, List.set_cons_zero, List.set_cons_succ]
  refine wpAnyH_done (by kernel_rfl) ?_ _
  clear hHeld3
  obtain ⟨gf, HGF⟩ : ∃ x, Hid (w3.heap.size = x) := ⟨_, rfl⟩
  obtain ⟨w4, HW4⟩ : ∃ x, Hid (w3.alloc (.cells #[.int .i64 0, .int .i64 0, .int .i64 0] 46) = x) := ⟨_, rfl⟩
  obtain ⟨w5, HW5⟩ : ∃ x, Hid (w4.alloc (.cells #[.int .i64 0, .int .i64 0, .int .i64 0] 46) = x) := ⟨_, rfl⟩
  have hz4 : w4.heap.size = gf + 1 := by rw [← HW4.out, ← HGF.out]; exact size_alloc _ _
  have hz5 : w5.heap.size = gf + 1 + 1 := by rw [← HW5.out, ← hz4]; exact size_alloc _ _
  have HTF5 : Hid (Ti w5 gf 0 0 0) := hid (by rw [← HW5.out]; refine heap_old _ _ _ _ ?_; rw [← HW4.out, ← HGF.out]; exact heap_alloc_new _ _)
  have HTT5 : Hid (Ti w5 (gf + 1) 0 0 0) := hid (by rw [← HW5.out, ← hz4]; exact heap_alloc_new _ _)
  have hb35 : Below gf w3 w5 := by
    have b1 : Below gf w3 w4 := by rw [← HW4.out, ← HGF.out]; exact (Below.refl _ w3).alloc (Nat.le_refl _) _
    rw [← HW5.out]
    exact b1.alloc (by omega) _
  have hgf : g < gf := by rw [← HGF.out]; exact hsz3
  have HBw5 : Hid (Below g w w5) := hid (HBw3.out.trans (hb35.mono (by omega)))
  have HYw5 : Hid (w5.heap[g]? = w1.heap[g]?) := hid ((hb35.block g (by omega)).trans HYw3.out)
  have HPO51 : Hid (PO w5 la1 lc1 L1) := hid (HPO31.out.below (by rw [HGF.out]; exact hb35))
  have HPO52 : Hid (PO w5 la2 lc2 L2) := hid (HPO32.out.below (by rw [HGF.out]; exact hb35))
  have HLO51 : Hid (∀ p : Addr, la1 = some p → g < p.block ∧ p.block < gf) := hid (by rw [← HGF.out]; exact HLO31.out)
  have HLO52 : Hid (∀ p : Addr, la2 = some p → g < p.block ∧ p.block < gf) := hid (by rw [← HGF.out]; exact HLO32.out)
  have hq5 : w5.cell? ⟨g, 0, none⟩ = some (.slice a0 n0 c0) := (HQ3.out w5 HYw5.out).c0
  have hal4 : w3.alloc (.cells #[.int .i64 0, .int .i64 0, .int .i64 0] 46) = w4 := HW4.out
  have hal5 : w4.alloc (.cells #[.int .i64 0, .int .i64 0, .int .i64 0] 46) = w5 := HW5.out
  clear hb35 hsz2 hsz3 hsd hs1
  go_wp2_with fail
  rw [HGF.out]
  refine (CL.out w5 HBw5.out).mono ?_
  rintro e wl ⟨vl, rfl, hbs⟩
  obtain ⟨xa, xc, rfl, hps, hxa, _⟩ := hbs.px (d := []) (fun x _ => encS_len x)
  rw [HM.out]
  have hbl := hbs.below
  obtain ⟨H, HH⟩ : ∃ x, Hid (wl.heap.size = x) := ⟨_, rfl⟩
  have hgH : gf + 1 < H := by rw [← HH.out]; have := hbl.size; omega
  have HBl : Hid (Below g w wl) := hid (HBw5.out.trans (hbl.mono (by omega)))
  have HYl : Hid (wl.heap[g]? = w1.heap[g]?) := hid ((hbl.block g (by omega)).trans HYw5.out)
  have HPOl1 : Hid (PO wl la1 lc1 L1) := hid (HPO51.out.below hbl)
  have HPOl2 : Hid (PO wl la2 lc2 L2) := hid (HPO52.out.below hbl)
  have HPSl : Hid (PS wl xa xc A) := hps
  have HXA : Hid (∀ p : Addr, xa = some p → gf + 1 < p.block ∧ p.block < H) := fun p hp => by have := hxa p hp; have := HH.out; omega
  have HTFl : Hid (Ti wl gf 0 0 0) := hid (HTF5.out.below hbl)
  have HTTl : Hid (Ti wl (gf + 1) 0 0 0) := hid (HTT5.out.below hbl)
  have HSl : Hid (Sx wl H pa pb pn pt a b (.slice none 0 0) [] 0) := hid ((HSW.out wl HBl.out).rebase (by have := HPN.out; omega) (by rw [HH.out]; exact Nat.le_refl _))
  have hpn := HPN.out.1
  have hpt := HPN.out.2.1
  have hpa := HPN.out.2.2.1
  have hpb := HPN.out.2.2.2.1
  clear hbs hps hxa hbl hq5 hal4 hal5 hz4 hz5
  have HPW0 : Hid (∀ W, Lp wl W H pn pt gf (gf + 1) → PB W a0 c0 s) := fun W hW => Px.lp (HP0.out wl HBl.out) (fun h0 p hp => by have := HR0.out h0 p hp; omega) hW
  have HPW1 : Hid (∀ W, Lp wl W H pn pt gf (gf + 1) → PB W a1 c1 t) := fun W hW => Px.lp (HP1.out wl HBl.out) (fun h0 p hp => by have := HR1.out h0 p hp; omega) hW
  have HPW2 : Hid (∀ W, Lp wl W H pn pt gf (gf + 1) → PB W a2 c2 u) := fun W hW => Px.lp (HP2.out wl HBl.out) (fun h0 p hp => by have := HR2.out h0 p hp; omega) hW
  have HPO1 : Hid (∀ W, Lp wl W H pn pt gf (gf + 1) → PO W la1 lc1 L1) := fun W hW => Px.lp HPOl1.out (fun h0 p hp => by have := HLO51.out p hp; omega) hW
  have HPO2' : Hid (∀ W, Lp wl W H pn pt gf (gf + 1) → PO W la2 lc2 L2) := fun W hW => Px.lp HPOl2.out (fun h0 p hp => by have := HLO52.out p hp; omega) hW
  have HPSW : Hid (∀ W, Lp wl W H pn pt gf (gf + 1) → PS W xa xc A) := fun W hW => Px.lp HPSl.out (fun h0 p hp => by have := HXA.out p hp; omega) hW
  have HQW : Hid (∀ W, Lp wl W H pn pt gf (gf + 1) → Q3 g (.slice a0 n0 c0) (.slice a1 n1 c1) (.slice a2 n2 c2) W) := fun W hW => HQ3.out W ((hW.block g (by omega) (by omega) (by omega) (by omega) (by omega)).trans HYl.out)
  have HTK : Hid (∀ (W : World) (v : Value) (out : Str) (n f0 f1 f2 p0 p1 p2 : Nat) (o x y : Str), Lp wl W H pn pt gf (gf + 1) → Sx W H pa pb pn pt a b v out n → f0 ≤ p0 → p0 ≤ n0 → f1 ≤ p1 → p1 ≤ n1 → f2 ≤ p2 → p2 ≤ n2 → (s.drop f0).take (p0 - f0) = o → (t.drop f1).take (p1 - f1) = x → (u.drop f2).take (p2 - f2) = y → out.length ≤ 20000000 → n ≤ 10000 →
      Calls Try.prog 11 #[.agg #[.slice (adX 1 a0 c0 f0) (p0 - f0 : Nat) (c0 - f0 : Nat), .slice (adX 1 a1 c1 f1) (p1 - f1 : Nat) (c1 - f1 : Nat), .slice (adX 1 a2 c2 f2) (p2 - f2 : Nat) (c2 - f2 : Nat)], .pointer (some ⟨pa, 0, none⟩), .pointer (some ⟨pb, 0, none⟩), .pointer (some ⟨pn, 0, none⟩), .pointer (some ⟨pt, 0, none⟩)] W (PostT W H pa pb pn pt a b v (out ++ (pc a b (o, x, y)).1) (n + (pc a b (o, x, y)).2))) := fun W v out n f0 f1 f2 p0 p1 p2 o x y hL hSx i0 j0 i1 j1 i2 j2 eo ex ey hol hnl => by
    have m0 := (HPW0.out W hL).mid f0 p0 i0 (by rw [HN0.out]; exact j0)
    have m1 := (HPW1.out W hL).mid f1 p1 i1 (by rw [HN1.out]; exact j1)
    have m2 := (HPW2.out W hL).mid f2 p2 i2 (by rw [HN2.out]; exact j2)
    have q0 : o.length = p0 - f0 := by rw [← eo, List.length_take, List.length_drop, HN0.out]; omega
    have q1 : x.length = p1 - f1 := by rw [← ex, List.length_take, List.length_drop, HN1.out]; omega
    have q2 : y.length = p2 - f2 := by rw [← ey, List.length_take, List.length_drop, HN2.out]; omega
    rw [eo] at m0
    rw [ex] at m1
    rw [ey] at m2
    have := take_any hSx _ _ o m0 _ _ x m1 _ _ y m2 (by omega) (by omega) ha hb hol hnl
    rw [q0, q1, q2] at this
    exact this
  have HFL : Hid (0 < m → ∃ b off, xa = some ⟨b, off, none⟩) := fun h0 => by
    obtain ⟨b, off, e1, _⟩ := HPSl.out.at_ (by rw [HM.out]; exact h0)
    exact ⟨b, off, e1⟩
  have HF1 : Hid (0 < m → ∃ b off, la1 = some ⟨b, off, none⟩) := fun h0 => by
    obtain ⟨b, off, e1, _⟩ := HPOl1.out.at_ (by rw [HLL1.out]; exact h0)
    exact ⟨b, off, e1⟩
  have HF2 : Hid (0 < m → ∃ b off, la2 = some ⟨b, off, none⟩) := fun h0 => by
    obtain ⟨b, off, e1, _⟩ := HPOl2.out.at_ (by rw [HLL2.out]; exact h0)
    exact ⟨b, off, e1⟩
  have HLP0 : Hid (Lp wl wl H pn pt gf (gf + 1)) := hid ⟨rfl, rfl, rfl, by rw [HH.out]; exact Nat.le_refl _, fun _ _ _ _ _ _ => rfl⟩
  go_wp2_with fail
  go_loopg [25] m (fun gg iv wr => ∃ (i f0 f1 f2 n q0 : Nat) (z1 z2 : Int) (o x y out : Str) (v : Value), iv = .int .i64 i ∧ i ≤ m ∧ gg = m - i ∧ Hid (Lp wl wr H pn pt gf (gf + 1)) ∧ Hid (Sx wr H pa pb pn pt a b v out n) ∧ Hid (Ti wr gf f0 f1 f2) ∧ Hid (Ti wr (gf + 1) q0 z1 z2) ∧ Hid (q0 = f0 + o.length) ∧ Hid (Md a b A (sdK E) (sdI E) (sdK F) (sdI F) T N i o x y out n) ∧ Hid (Bs s A i f0 o) ∧ Hid (Sd t A (sdK E) (sdI E) L1 i f1 x) ∧ Hid (Sd u A (sdK F) (sdI F) L2 i f2 y))
  case atStart => exact ⟨0, 0, 0, 0, 0, 0, 0, 0, [], [], [], [], _, rfl, Nat.zero_le _, rfl, HLP0, HSl, HTFl, HTTl, hid rfl, HMD, HBS, HSD1, HSD2⟩
  case round =>
    obtain ⟨i, f0, f1, f2, n, q0, z1, z2, o, x, y, out, v, rfl, him, hg', HLP, HSX, HTF, HTT, HQ0, HMd, HBs, HSd1, HSd2⟩ := hrel
    have hbs1 := HBs.out.len
    have hq0 : q0 ≤ n0 := by rw [HQ0.out, ← HN0.out]; exact hbs1
    have hf0q : f0 ≤ q0 := by rw [HQ0.out]; omega
    have hsd1 := HSd1.out.len
    have hsd2 := HSd2.out.len
    have hf1 : f1 ≤ n1 := by have := HN1.out; omega
    have hf2 : f2 ≤ n2 := by have := HN2.out; omega
    clear hbs1 hsd1 hsd2
    by_cases hlt : i < m
    · have hlti : (i : Int) < (m : Int) := by omega
      have hAi : i < A.length := by rw [HM.out]; exact hlt
      obtain ⟨lb, lof, hae⟩ := HFL.out (by omega)
      obtain ⟨b1, o1, hae1⟩ := HF1.out (by omega)
      obtain ⟨b2, o2, hae2⟩ := HF2.out (by omega)
      subst hae hae1 hae2
      obtain ⟨ln, HLN⟩ : ∃ z, Hid (A.getD i [] = z) := ⟨_, rfl⟩
      have hln : ln.length ≤ 3000 := by rw [← HLN.out]; exact HLA.out i
      have kl : wr.cell? ⟨lb, lof + i, none⟩ = some (.string ⟨ln.toArray⟩) := by
        have := (HPSW.out wr HLP.out).cell i hAi
        rw [HLN.out] at this
        exact this
      obtain ⟨hL1, hi1⟩ := HSd1.out.here hAi HKE.out
      obtain ⟨hL2, hi2⟩ := HSd2.out.here hAi HKF.out
      have k1 := (HPO1.out wr HLP.out).cell i hi1
      have k2 := (HPO2'.out wr HLP.out).cell i hi2
      rw [hL1] at k1
      rw [hL2] at k2
      clear hL1 hL2 hi1 hi2
      have HAi : Hid (i < A.length) := hAi
      clear hAi
      obtain ⟨ke, HKEi⟩ : ∃ z, Hid ((sdK E).getD i false = z) := ⟨_, rfl⟩
      obtain ⟨kf, HKFi⟩ : ∃ z, Hid ((sdK F).getD i false = z) := ⟨_, rfl⟩
      obtain ⟨P1, HP1'⟩ : ∃ z, Hid (f1 + (x ++ (sdI E).getD i []).length = z) := ⟨_, rfl⟩
      obtain ⟨P2, HP2'⟩ : ∃ z, Hid (f2 + (y ++ (sdI F).getD i []).length = z) := ⟨_, rfl⟩
      rw [HKEi.out, HP1'.out] at k1
      rw [HKFi.out, HP2'.out] at k2
      obtain ⟨t0, t1, t2⟩ := HTT.out.cells
      have tf := HTT.out.fz 0
      have HB1s := hid (HBs.out.soft HAi.out)
      rw [HLN.out] at HB1s
      have HLP' : Hid (∀ z, Lp wl (wr.setCell ⟨gf + 1, 0, none⟩ z) H pn pt gf (gf + 1)) := fun z => HLP.out.set (.inr rfl) z
      have HSX' : Hid (∀ z, Sx (wr.setCell ⟨gf + 1, 0, none⟩ z) H pa pb pn pt a b v out n) := fun z => HSX.out.other (by omega) (fun k hk => by have := (HSX.out.ownb k hk).1; omega)
      have HTF' : Hid (∀ z, Ti (wr.setCell ⟨gf + 1, 0, none⟩ z) gf f0 f1 f2) := fun z => HTF.out.other (by omega) z
      have HTT' : Hid (∀ z, Ti (wr.setCell ⟨gf + 1, 0, none⟩ (.int .i64 z)) (gf + 1) z z1 z2) := fun z => HTT.out.set0 z
      have nP1 : ((P1 : Int) != -1) = true := by simp
      have nP2 : ((P2 : Int) != -1) = true := by simp
      cases ke with
      | true =>
        cases kf with
        | true =>
          simp only [if_true, oI] at k1 k2
          obtain ⟨x1, HX1⟩ : ∃ z, Hid (x ++ (sdI E).getD i [] = z) := ⟨_, rfl⟩
          obtain ⟨y1, HY1⟩ : ∃ z, Hid (y ++ (sdI F).getD i [] = z) := ⟨_, rfl⟩
          have HM1 := hid (HMd.out.firm HAi.out HKE.out HKF.out (by rw [HKEi.out, HKFi.out]; rfl))
          obtain ⟨tb1, tb2, tb3⟩ := HBs.out.firm HAi.out
          obtain ⟨ts1, ts2, ts3⟩ := HSd1.out.firm HAi.out HKE.out HKEi.out
          obtain ⟨tt1, tt2, tt3⟩ := HSd2.out.firm HAi.out HKF.out HKFi.out
          rw [HX1.out] at HP1'
          rw [HY1.out] at HP2'
          rw [HX1.out, HY1.out, HLN.out] at HM1
          rw [HX1.out] at ts1
          rw [HX1.out, HP1'.out, HLN.out] at ts2 ts3
          rw [HY1.out] at tt1
          rw [HY1.out, HP2'.out, HLN.out] at tt2 tt3
          rw [HLN.out] at tb2 tb3
          rw [← HQ0.out] at tb2 tb3
          have j0 := tb3.le
          have j1 := ts3.le
          have j2 := tt3.le
          rw [HN0.out] at j0
          rw [HN1.out] at j1
          rw [HN2.out] at j2
          have g1 : f1 ≤ P1 := by rw [← HP1'.out]; omega
          have g2 : f2 ≤ P2 := by rw [← HP2'.out]; omega
          have v0 : (s.drop f0).take (q0 - f0) = o := by rw [show q0 - f0 = o.length by have := HQ0.out; omega]; exact tb1
          have v1 : (t.drop f1).take (P1 - f1) = x1 := by rw [show P1 - f1 = x1.length by have := HP1'.out; omega]; exact ts1
          have v2 : (u.drop f2).take (P2 - f2) = y1 := by rw [show P2 - f2 = y1.length by have := HP2'.out; omega]; exact tt1
          have u0 : (s.drop q0).take (q0 + ln.length - q0) = ln := by rw [Nat.add_sub_cancel_left]; exact tb2
          have u1 : (t.drop P1).take (P1 + ln.length - P1) = ln := by rw [Nat.add_sub_cancel_left]; exact ts2
          have u2 : (u.drop P2).take (P2 + ln.length - P2) = ln := by rw [Nat.add_sub_cancel_left]; exact tt2
          have HV := hid (And.intro v0 (And.intro v1 v2))
          have HUU := hid (And.intro u0 (And.intro u1 u2))
          have HTB := hid tb3
          have HTS := hid ts3
          have HTT3 := hid tt3
          have hln1 := HM1.out.len
          obtain ⟨out1, HO1⟩ : ∃ z, Hid (out ++ (pc a b (o, x1, y1)).1 = z) := ⟨_, rfl⟩
          obtain ⟨m1, HM1n⟩ : ∃ z, Hid (n + (pc a b (o, x1, y1)).2 = z) := ⟨_, rfl⟩
          have hol : out.length ≤ 20000000 := by have := HMd.out.len; omega
          have hnl : n ≤ 10000 := by have := HMd.out.len; omega
          rw [HO1.out, HM1n.out] at HM1 hln1
          have hol1 : out1.length ≤ 20000000 := by rw [List.length_append] at hln1; omega
          have hnl1 : m1 ≤ 10000 := by omega
          clear hln1 tb1 tb2 tb3 ts1 ts2 ts3 tt1 tt2 tt3 v0 v1 v2 u0 u1 u2 HMd HSd1 HSd2 HBs HB1s HLP' HSX' HTF' HTT' t0 t1 t2 tf
          go_wp2_with fail
          have hS0 : Qc b1 (o1 + i) b2 (o2 + i) P1 P2 wr.drew := ⟨k1, k2⟩
          have HLPd : Hid (Lp wl wr.drew H pn pt gf (gf + 1)) := hid HLP.out.drew
          have HSXd : Hid (Sx wr.drew H pa pb pn pt a b v out n) := hid (HSX.out.below ⟨rfl, rfl, rfl, Nat.le_refl _, fun _ _ => rfl⟩)
          have HTFd : Hid (Ti wr.drew gf f0 f1 f2) := HTF
          have HTTd : Hid (Ti wr.drew (gf + 1) q0 z1 z2) := HTT
          refine wp_region_held_drew (S := Qc b1 (o1 + i) b2 (o2 + i) P1 P2) (by kernel_rfl) hS0 (fun hHeld => ?_)
          clear hS0
          clear HLP HSX HTF HTT
          generalize wr.drew = wd at hHeld HLPd HSXd HTFd HTTd ⊢
          refine takeL (i := 0) (v := ?_) rfl (by kernel_rfl) (by kernel_rfl) (by kernel_rfl) (fun _ _ _ h => h) (Or.inl ⟨by rfl, ?_⟩) hHeld ?_
          rotate_left
          · rintro w' ⟨d0, d1⟩; go_simp; rfl
          try simp only [Act.put, List.setIfInBounds_toArray, List.set_cons_zero, List.set_cons_succ]
          refine takeL (i := 1) (v := ?_) rfl (by kernel_rfl) (by kernel_rfl) (by kernel_rfl) (fun _ _ _ h => h) (Or.inl ⟨by rfl, ?_⟩) hHeld ?_
          rotate_left
          · rintro w' ⟨d0, d1⟩; go_simp; rfl
          try simp only [Act.put, List.setIfInBounds_toArray, List.set_cons_zero, List.set_cons_succ]
          refine takeL (i := 2) (v := ?_) rfl (by kernel_rfl) (by kernel_rfl) (by kernel_rfl) (fun _ _ _ h => h) (Or.inl ⟨by rfl, ?_⟩) hHeld ?_
          rotate_left
          · rintro w' ⟨d0, d1⟩; go_simp; rfl
          try simp only [Act.put, List.setIfInBounds_toArray, List.set_cons_zero, List.set_cons_succ]
          refine takeL (i := 3) (v := ?_) rfl (by kernel_rfl) (by kernel_rfl) (by kernel_rfl) (fun _ _ _ h => h) (Or.inl ⟨by rfl, ?_⟩) hHeld ?_
          rotate_left
          · rintro w' ⟨d0, d1⟩; go_simp; rfl
          try simp only [Act.put, List.setIfInBounds_toArray, List.set_cons_zero, List.set_cons_succ]
          refine takeL (i := 4) (v := ?_) rfl (by kernel_rfl) (by kernel_rfl) (by kernel_rfl) (fun _ _ _ h => h) (Or.inl ⟨by rfl, ?_⟩) hHeld ?_
          rotate_left
          · rintro w' ⟨d0, d1⟩; go_simp; rfl
          try simp only [Act.put, List.setIfInBounds_toArray, List.set_cons_zero, List.set_cons_succ]
          refine takeL (i := 5) (v := ?_) rfl (by kernel_rfl) (by kernel_rfl) (by kernel_rfl) (fun _ _ _ h => h) (Or.inl ⟨by rfl, ?_⟩) hHeld ?_
          rotate_left
          · rintro w' ⟨d0, d1⟩; go_simp; rfl
          try simp only [Act.put, List.setIfInBounds_toArray, List.set_cons_zero, List.set_cons_succ]
          refine takeL (i := 6) (v := ?_) rfl (by kernel_rfl) (by kernel_rfl) (by kernel_rfl) (fun _ _ _ h => h) (Or.inl ⟨by rfl, ?_⟩) hHeld ?_
          rotate_left
          · rintro w' ⟨d0, d1⟩; go_simp; rfl
          try simp only [Act.put, List.setIfInBounds_toArray, List.set_cons_zero, List.set_cons_succ]
          refine takeL (i := 7) (v := ?_) rfl (by kernel_rfl) (by kernel_rfl) (by kernel_rfl) (fun _ _ _ h => h) (Or.inl ⟨by rfl, ?_⟩) hHeld ?_
          rotate_left
          · rintro w' ⟨d0, d1⟩; go_simp; rfl
          try simp only [Act.put, List.setIfInBounds_toArray, List.set_cons_zero, List.set_cons_succ]
          refine takeL (i := 8) (v := ?_) rfl (by kernel_rfl) (by kernel_rfl) (by kernel_rfl) (fun _ _ _ h => h) (Or.inl ⟨by rfl, ?_⟩) hHeld ?_
          rotate_left
          · rintro w' ⟨d0, d1⟩; go_simp; rfl
          try simp only [Act.put, List.setIfInBounds_toArray, List.set_cons_zero, List.set_cons_succ]
          obtain ⟨t0, t1, t2⟩ := HTTd.out.cells
          have tf1 := HTTd.out.fz 1
          have HLPe := hid (HLPd.out.set (q := gf + 1) (i := 1) (.inr rfl) (.int .i64 (P1 : Int)))
          have HSXe : Hid (Sx (wd.setCell ⟨gf + 1, 1, none⟩ (.int .i64 (P1 : Int))) H pa pb pn pt a b v out n) := hid (HSXd.out.other (by omega) (fun k hk => by have := (HSXd.out.ownb k hk).1; omega))
          have HTFe : Hid (Ti (wd.setCell ⟨gf + 1, 1, none⟩ (.int .i64 (P1 : Int))) gf f0 f1 f2) := hid (HTFd.out.other (by omega) _)
          have HTTe : Hid (Ti (wd.setCell ⟨gf + 1, 1, none⟩ (.int .i64 (P1 : Int))) (gf + 1) q0 P1 z2) := hid (HTTd.out.set1 _)
          have HSe : Hid (Qc b1 (o1 + i) b2 (o2 + i) P1 P2 (wd.setCell ⟨gf + 1, 1, none⟩ (.int .i64 (P1 : Int)))) := hid (by
            have := HLO51.out _ rfl
            have := HLO52.out _ rfl
            simp only [] at *
            exact ⟨by rw [World.cell?_setCell_other _ _ _ _ (fun e => by have h9 := congrArg Addr.block e; simp only [] at h9; omega)]; exact hHeld.c1, by rw [World.cell?_setCell_other _ _ _ _ (fun e => by have h9 := congrArg Addr.block e; simp only [] at h9; omega)]; exact hHeld.c2⟩)
          refine wpAnyH_ready (rs := [9]) (by kernel_rfl) (by simp) ?_
          refine consL rfl (fun KK hKK => ?_) AllReadyH.nil
          go_simp
          refine hKK.out _ _ HSe.out (fun hHeld2 => ?_)
          clear hKK KK hHeld t0 t1 t2 tf1 HLPd HSXd HTFd HTTd
          generalize wd.setCell ⟨gf + 1, 1, none⟩ (.int .i64 (P1 : Int)) = we at HLPe HSXe HTFe HTTe HSe hHeld2 ⊢
          try simp only [Act.put, List.setIfInBounds_toArray, List.set_cons_zero, List.set_cons_succ]
          refine takeL (i := 10) (v := ?_) rfl (by kernel_rfl) (by kernel_rfl) (by kernel_rfl) (fun _ _ _ h => h) (Or.inl ⟨by rfl, ?_⟩) hHeld2 ?_
          rotate_left
          · rintro w' ⟨d0, d1⟩; go_simp; rfl
          try simp only [Act.put, List.setIfInBounds_toArray, List.set_cons_zero, List.set_cons_succ]
          obtain ⟨t0, t1, t2⟩ := HTTe.out.cells
          have tf2 := HTTe.out.fz 2
          have HLPf := hid (HLPe.out.set (q := gf + 1) (i := 2) (.inr rfl) (.int .i64 (P2 : Int)))
          have HSXf : Hid (Sx (we.setCell ⟨gf + 1, 2, none⟩ (.int .i64 (P2 : Int))) H pa pb pn pt a b v out n) := hid (HSXe.out.other (by omega) (fun k hk => by have := (HSXe.out.ownb k hk).1; omega))
          have HTFf : Hid (Ti (we.setCell ⟨gf + 1, 2, none⟩ (.int .i64 (P2 : Int))) gf f0 f1 f2) := hid (HTFe.out.other (by omega) _)
          have HTTf : Hid (Ti (we.setCell ⟨gf + 1, 2, none⟩ (.int .i64 (P2 : Int))) (gf + 1) q0 P1 P2) := hid (HTTe.out.set2 _)
          have HSf : Hid (Qc b1 (o1 + i) b2 (o2 + i) P1 P2 (we.setCell ⟨gf + 1, 2, none⟩ (.int .i64 (P2 : Int)))) := hid (by
            have := HLO51.out _ rfl
            have := HLO52.out _ rfl
            simp only [] at *
            exact ⟨by rw [World.cell?_setCell_other _ _ _ _ (fun e => by have h9 := congrArg Addr.block e; simp only [] at h9; omega)]; exact hHeld2.c1, by rw [World.cell?_setCell_other _ _ _ _ (fun e => by have h9 := congrArg Addr.block e; simp only [] at h9; omega)]; exact hHeld2.c2⟩)
          refine wpAnyH_ready (rs := [11]) (by kernel_rfl) (by simp) ?_
          refine consL rfl (fun KK hKK => ?_) AllReadyH.nil
          go_simp
          refine hKK.out _ _ HSf.out (fun hHeld3 => ?_)
          clear hKK KK hHeld2 t0 t1 t2 tf2 HLPe HSXe HTFe HTTe HSe
          generalize we.setCell ⟨gf + 1, 2, none⟩ (.int .i64 (P2 : Int)) = w7 at HLPf HSXf HTFf HTTf HSf hHeld3 ⊢
          try simp only [Act.put, List.setIfInBounds_toArray, List.set_cons_zero, List.set_cons_succ]
          refine wpAnyH_done (by kernel_rfl) ?_ _
          clear hHeld3 HSf
          try simp only [Exit.then]
          obtain ⟨g10, HG10⟩ : ∃ z, Hid (w7.heap.size = z) := ⟨_, rfl⟩
          have hg10 : H ≤ g10 := by rw [← HG10.out]; exact HLPf.out.size
          obtain ⟨w8, HW8⟩ : ∃ z, Hid (w7.alloc (.cells #[.int .i64 ((q0 + ln.length : Nat) : Int), .int .i64 ((P1 + ln.length : Nat) : Int), .int .i64 ((P2 + ln.length : Nat) : Int)] 46) = z) := ⟨_, rfl⟩
          have hal8 : w7.alloc (.cells #[.int .i64 ((q0 : Int) + (ln.length : Int)), .int .i64 ((P1 : Int) + (ln.length : Int)), .int .i64 ((P2 : Int) + (ln.length : Int))] 46) = w8 := HW8.out
          have hb8 : Below w7.heap.size w7 w8 := by rw [← HW8.out]; exact (Below.refl _ w7).alloc (Nat.le_refl _) _
          have HLP8 := hid (HLPf.out.below hb8)
          have HSX8 := hid (HSXf.out.below hb8)
          have HTF8 := hid (HTFf.out.below hb8)
          have HTT8 := hid (HTTf.out.below hb8)
          have HT108 : Hid (Ti w8 g10 ((q0 + ln.length : Nat) : Int) ((P1 + ln.length : Nat) : Int) ((P2 + ln.length : Nat) : Int)) := hid (by rw [← HW8.out, ← HG10.out]; exact heap_alloc_new _ _)
          have HOB8 : Hid (∀ k, v.ownBlock = some k → H ≤ k ∧ k < g10) := hid (fun k hk => by have := HSXf.out.ownb k hk; have := HG10.out; omega)
          obtain ⟨a0', a1', a2'⟩ := HTTf.out.cells
          have C20 : Hid (Calls Try.prog 20 #[.agg #[.slice a0 n0 c0, .slice a1 n1 c1, .slice a2 n2 c2], .agg #[.int .i64 (f0 : Int), .int .i64 (f1 : Int), .int .i64 (f2 : Int)], .agg #[.int .i64 (q0 : Int), .int .i64 (P1 : Int), .int .i64 (P2 : Int)]] w8 fun e w' =>
            e = .returned (.agg #[.slice (adX 1 a0 c0 f0) (q0 - f0 : Nat) (c0 - f0 : Nat), .slice (adX 1 a1 c1 f1) (P1 - f1 : Nat) (c1 - f1 : Nat), .slice (adX 1 a2 c2 f2) (P2 - f2 : Nat) (c2 - f2 : Nat)]) ∧ Below w8.heap.size w8 w') := hid (betw_any w8 a0 a1 a2 n0 n1 n2 c0 c1 c2 f0 f1 f2 q0 P1 P2 (by omega) (by omega) (by omega) (by omega) (by omega) (by omega))
          obtain ⟨d0, d1, d2⟩ := HQW.out w8 HLP8.out
          obtain ⟨i0, i1, i2⟩ := HTF8.out.cells
          obtain ⟨l0, l1, l2⟩ := HTT8.out.cells
          clear hb8 HLPf HSXf HTFf HTTf
          go_wp2_with fail
          rw [HG10.out]
          refine C20.out.mono ?_
          rintro e w9 ⟨rfl, hb9⟩
          clear d0 d1 d2 i0 i1 i2 l0 l1 l2 a0' a1' a2' hal8
          have HLP9 := hid (HLP8.out.below hb9)
          have HSX9 := hid (HSX8.out.below hb9)
          have HTF9 := hid (HTF8.out.below hb9)
          have HTT9 := hid (HTT8.out.below hb9)
          have HT109 := hid (HT108.out.below hb9)
          have hz9 : g10 < w9.heap.size := HT109.out.lt
          have C11 := hid (HTK.out w9 v out n f0 f1 f2 q0 P1 P2 o x1 y1 HLP9.out HSX9.out (by omega) (by omega) (by omega) (by omega) (by omega) (by omega) HV.out.1 HV.out.2.1 HV.out.2.2 hol hnl)
          rw [HO1.out, HM1n.out] at C11
          clear hb9 HLP8 HSX8 HTF8 HTT8 HT108 C20
          go_wp2_with fail
          refine C11.out.mono ?_
          rintro e w10 ⟨rfl, vv, hsx, hfx, hob⟩
          have HLP10 := hid (HLP9.out.fx hfx (fun k hk => (HOB8.out k hk).1))
          have HSX10 := hid hsx
          have HTF10 := hid (HTF9.out.fx hfx (by omega) (by omega) (fun e => by have := HOB8.out _ e.symm; omega))
          have HTT10 := hid (HTT9.out.fx hfx (by omega) (by omega) (fun e => by have := HOB8.out _ e.symm; omega))
          have HT1010 := hid (HT109.out.fx hfx (by omega) (by omega) (fun e => by have := HOB8.out _ e.symm; omega))
          have HOB10 : Hid (∀ k, vv.ownBlock = some k → H ≤ k ∧ k ≠ g10) := hid (fun k hk => by
            rcases hob with h | h
            · rw [h] at hk
              have := HOB8.out k hk
              omega
            · have := h k hk
              omega)
          clear hsx hfx hob HLP9 HSX9 HTF9 HTT9 HT109 C11 HOB8 hz9
          have C20 : Hid (Calls Try.prog 20 #[.agg #[.slice a0 n0 c0, .slice a1 n1 c1, .slice a2 n2 c2], .agg #[.int .i64 (q0 : Int), .int .i64 (P1 : Int), .int .i64 (P2 : Int)], .agg #[.int .i64 ((q0 + ln.length : Nat) : Int), .int .i64 ((P1 + ln.length : Nat) : Int), .int .i64 ((P2 + ln.length : Nat) : Int)]] w10 fun e w' =>
            e = .returned (.agg #[.slice (adX 1 a0 c0 q0) (ln.length : Nat) (c0 - q0 : Nat), .slice (adX 1 a1 c1 P1) (ln.length : Nat) (c1 - P1 : Nat), .slice (adX 1 a2 c2 P2) (ln.length : Nat) (c2 - P2 : Nat)]) ∧ Below w10.heap.size w10 w') := hid (by
            have := betw_any w10 a0 a1 a2 n0 n1 n2 c0 c1 c2 q0 P1 P2 (q0 + ln.length) (P1 + ln.length) (P2 + ln.length) (by omega) (by omega) (by omega) (by omega) (by omega) (by omega)
            rw [Nat.add_sub_cancel_left, Nat.add_sub_cancel_left, Nat.add_sub_cancel_left] at this
            exact this)
          obtain ⟨d0, d1, d2⟩ := HQW.out w10 HLP10.out
          obtain ⟨i0, i1, i2⟩ := HT1010.out.cells
          obtain ⟨l0, l1, l2⟩ := HTT10.out.cells
          go_wp2_with fail
          refine C20.out.mono ?_
          rintro e w11 ⟨rfl, hb11⟩
          clear d0 d1 d2 i0 i1 i2 l0 l1 l2
          have HLP11 := hid (HLP10.out.below hb11)
          have HSX11 := hid (HSX10.out.below hb11)
          have HTF11 := hid (HTF10.out.below hb11)
          have HTT11 := hid (HTT10.out.below hb11)
          have HT1011 := hid (HT1010.out.below hb11)
          have C11 := hid (HTK.out w11 vv out1 m1 q0 P1 P2 (q0 + ln.length) (P1 + ln.length) (P2 + ln.length) ln ln ln HLP11.out HSX11.out (by omega) (by omega) (by omega) (by omega) (by omega) (by omega) HUU.out.1 HUU.out.2.1 HUU.out.2.2 hol1 hnl1)
          rw [pc_firm, Nat.add_zero, Nat.add_sub_cancel_left, Nat.add_sub_cancel_left, Nat.add_sub_cancel_left] at C11
          have HOB11 : Hid (∀ k, vv.ownBlock = some k → H ≤ k ∧ k ≠ g10) := HOB10
          clear hb11 HLP10 HSX10 HTF10 HTT10 HT1010 C20 HOB10
          go_wp2_with fail
          refine C11.out.mono ?_
          rintro e w12 ⟨rfl, v3, hsx, hfx, hob⟩
          have HLP12 := hid (HLP11.out.fx hfx (fun k hk => (HOB11.out k hk).1))
          have HSX12 := hid hsx
          have HTF12 := hid (HTF11.out.fx hfx (by omega) (by omega) (fun e => by have := HOB11.out _ e.symm; omega))
          have HTT12 := hid (HTT11.out.fx hfx (by omega) (by omega) (fun e => by have := HOB11.out _ e.symm; omega))
          have HT1012 := hid (HT1011.out.fx hfx (by omega) (by omega) (fun e => by have := HOB11.out _ e.symm; omega))
          have HOB12 : Hid (∀ k, v3.ownBlock = some k → H ≤ k) := hid (fun k hk => (HSX12.out.ownb k hk).1)
          clear hsx hfx hob HLP11 HSX11 HTF11 HTT11 HT1011 C11 HOB11
          obtain ⟨i0, i1, i2⟩ := HT1012.out.cells
          obtain ⟨l0, l1, l2⟩ := HTT12.out.cells
          have lf := HTT12.out.fz 0
          obtain ⟨s0, s1, s2⟩ := HTF12.out.cells
          have sf0 := HTF12.out.fz 0
          have sf1 := HTF12.out.fz 1
          have sf2 := HTF12.out.fz 2
          obtain ⟨zz, HZZ⟩ : ∃ z : World → World, Hid (z = fun W => (((W.setCell ⟨gf, 0, none⟩ (.int .i64 ((q0 + ln.length : Nat) : Int))).setCell ⟨gf, 1, none⟩ (.int .i64 ((P1 + ln.length : Nat) : Int))).setCell ⟨gf, 2, none⟩ (.int .i64 ((P2 + ln.length : Nat) : Int))).setCell ⟨gf + 1, 0, none⟩ (.int .i64 ((q0 + ln.length : Nat) : Int))) := ⟨_, rfl⟩
          have HLP13 : Hid (Lp wl (zz w12) H pn pt gf (gf + 1)) := hid (by rw [HZZ.out]; exact (((HLP12.out.set (.inl rfl) _).set (.inl rfl) _).set (.inl rfl) _).set (.inr rfl) _)
          have HSX13 : Hid (Sx (zz w12) H pa pb pn pt a b v3 (out1 ++ ln) m1) := hid (by
            rw [HZZ.out]
            have hvv : ∀ q, q < H → ∀ k, v3.ownBlock = some k → k ≠ q := fun q hq k hk => by have := HOB12.out k hk; omega
            exact (((HSX12.out.other (by omega) (hvv gf (by omega))).other (by omega) (hvv gf (by omega))).other (by omega) (hvv gf (by omega))).other (by omega) (hvv (gf + 1) (by omega)))
          have HTF13 : Hid (Ti (zz w12) gf ((q0 + ln.length : Nat) : Int) ((P1 + ln.length : Nat) : Int) ((P2 + ln.length : Nat) : Int)) := hid (by rw [HZZ.out]; exact (((HTF12.out.set0 _).set1 _).set2 _).other (by omega) _)
          have HTT13 : Hid (Ti (zz w12) (gf + 1) ((q0 + ln.length : Nat) : Int) P1 P2) := hid (by rw [HZZ.out]; exact (((HTT12.out.other (by omega) _).other (by omega) _).other (by omega) _).set0 _)
          have hzz : (((w12.setCell ⟨gf, 0, none⟩ (.int .i64 ((q0 : Int) + (ln.length : Int)))).setCell ⟨gf, 1, none⟩ (.int .i64 ((P1 : Int) + (ln.length : Int)))).setCell ⟨gf, 2, none⟩ (.int .i64 ((P2 : Int) + (ln.length : Int)))).setCell ⟨gf + 1, 0, none⟩ (.int .i64 ((q0 : Int) + (ln.length : Int))) = zz w12 := by rw [HZZ.out]; rfl
          have HZ2 := hid hzz
          clear hzz HLP12 HSX12 HTF12 HTT12 HT1012 HOB12
          go_wp2_with fail
          rw [HZ2.out]
          go_roundg (m - (i + 1))
          case measure => omega
          case rel => exact ⟨i + 1, q0 + ln.length, P1 + ln.length, P2 + ln.length, m1, q0 + ln.length, P1, P2, [], [], [], out1 ++ ln, v3, by go_num, by omega, rfl, HLP13, HSX13, HTF13, HTT13, hid rfl, HM1, HTB, HTS, HTT3⟩
        | false =>
          simp only [Bool.false_eq_true, if_true, if_false, oI] at k1 k2
          have HM1 := hid (HMd.out.soft HAi.out HKE.out HKF.out (by rw [HKEi.out, HKFi.out]; rfl))
          have HS1 := hid (HSd1.out.soft HAi.out HKE.out)
          have HS2 := hid (HSd2.out.soft HAi.out HKF.out)
          rw [HKEi.out, HKFi.out, HLN.out] at HM1
          rw [HKEi.out, HLN.out] at HS1
          rw [HKFi.out, HLN.out] at HS2
          have HQ1 : Hid (q0 + ln.length = f0 + (o ++ ln).length) := hid (by rw [HQ0.out, List.length_append]; omega)
          clear HMd HSd1 HSd2 HBs HQ0 HTK
          go_wp2
          go_roundg (m - (i + 1))
          case measure => omega
          case rel => exact ⟨i + 1, f0, f1, f2, n, q0 + ln.length, z1, z2, o ++ ln, _, _, out, v, by go_num, by omega, rfl, hid (HLP'.out _), hid (HSX'.out _), hid (HTF'.out _), hid (by have := HTT'.out ((q0 + ln.length : Nat) : Int); exact this), HQ1, HM1, HB1s, HS1, HS2⟩
      | false =>
        cases kf with
        | true =>
          simp only [Bool.false_eq_true, if_true, if_false, oI] at k1 k2
          have HM1 := hid (HMd.out.soft HAi.out HKE.out HKF.out (by rw [HKEi.out, HKFi.out]; rfl))
          have HS1 := hid (HSd1.out.soft HAi.out HKE.out)
          have HS2 := hid (HSd2.out.soft HAi.out HKF.out)
          rw [HKEi.out, HKFi.out, HLN.out] at HM1
          rw [HKEi.out, HLN.out] at HS1
          rw [HKFi.out, HLN.out] at HS2
          have HQ1 : Hid (q0 + ln.length = f0 + (o ++ ln).length) := hid (by rw [HQ0.out, List.length_append]; omega)
          clear HMd HSd1 HSd2 HBs HQ0 HTK
          go_wp2
          go_roundg (m - (i + 1))
          case measure => omega
          case rel => exact ⟨i + 1, f0, f1, f2, n, q0 + ln.length, z1, z2, o ++ ln, _, _, out, v, by go_num, by omega, rfl, hid (HLP'.out _), hid (HSX'.out _), hid (HTF'.out _), hid (by have := HTT'.out ((q0 + ln.length : Nat) : Int); exact this), HQ1, HM1, HB1s, HS1, HS2⟩
        | false =>
          simp only [Bool.false_eq_true, if_true, if_false, oI] at k1 k2
          have HM1 := hid (HMd.out.soft HAi.out HKE.out HKF.out (by rw [HKEi.out, HKFi.out]; rfl))
          have HS1 := hid (HSd1.out.soft HAi.out HKE.out)
          have HS2 := hid (HSd2.out.soft HAi.out HKF.out)
          rw [HKEi.out, HKFi.out, HLN.out] at HM1
          rw [HKEi.out, HLN.out] at HS1
          rw [HKFi.out, HLN.out] at HS2
          have HQ1 : Hid (q0 + ln.length = f0 + (o ++ ln).length) := hid (by rw [HQ0.out, List.length_append]; omega)
          clear HMd HSd1 HSd2 HBs HQ0 HTK
          go_wp2
          go_roundg (m - (i + 1))
          case measure => omega
          case rel => exact ⟨i + 1, f0, f1, f2, n, q0 + ln.length, z1, z2, o ++ ln, _, _, out, v, by go_num, by omega, rfl, hid (HLP'.out _), hid (HSX'.out _), hid (HTF'.out _), hid (by have := HTT'.out ((q0 + ln.length : Nat) : Int); exact this), HQ1, HM1, HB1s, HS1, HS2⟩
    · have hlti : ¬ (i : Int) < (m : Int) := by omega
      obtain rfl : i = m := by omega
      have hLa := HMd.out.last (by rw [HM.out]; exact Nat.le_refl _)
      have hb9 := HBs.out.last (by rw [HM.out]; exact Nat.le_refl _)
      have ht9 := HSd1.out.last (by rw [HM.out]; exact Nat.le_refl _)
      have hu9 := HSd2.out.last (by rw [HM.out]; exact Nat.le_refl _)
      have hlen := HMd.out.len
      have C20 : Hid (Calls Try.prog 20 #[.agg #[.slice a0 n0 c0, .slice a1 n1 c1, .slice a2 n2 c2], .agg #[.int .i64 (f0 : Int), .int .i64 (f1 : Int), .int .i64 (f2 : Int)], .agg #[.int .i64 (n0 : Int), .int .i64 (n1 : Int), .int .i64 (n2 : Int)]] wr fun e w' =>
        e = .returned (.agg #[.slice (adX 1 a0 c0 f0) (n0 - f0 : Nat) (c0 - f0 : Nat), .slice (adX 1 a1 c1 f1) (n1 - f1 : Nat) (c1 - f1 : Nat), .slice (adX 1 a2 c2 f2) (n2 - f2 : Nat) (c2 - f2 : Nat)]) ∧ Below wr.heap.size wr w') := hid (betw_any wr a0 a1 a2 n0 n1 n2 c0 c1 c2 f0 f1 f2 n0 n1 n2 (by omega) (by omega) (by omega) (by omega) (by omega) (by omega))
      have C11 : Hid (∀ W, Below wr.heap.size wr W → Calls Try.prog 11 #[.agg #[.slice (adX 1 a0 c0 f0) (n0 - f0 : Nat) (c0 - f0 : Nat), .slice (adX 1 a1 c1 f1) (n1 - f1 : Nat) (c1 - f1 : Nat), .slice (adX 1 a2 c2 f2) (n2 - f2 : Nat) (c2 - f2 : Nat)], .pointer (some ⟨pa, 0, none⟩), .pointer (some ⟨pb, 0, none⟩), .pointer (some ⟨pn, 0, none⟩), .pointer (some ⟨pt, 0, none⟩)] W (PostT W H pa pb pn pt a b v T N)) := fun W hW => by
        have := HTK.out W v out n f0 f1 f2 n0 n1 n2 o (x ++ (sdI E).getD i []) (y ++ (sdI F).getD i []) (HLP.out.below hW) (HSX.out.below hW) (by omega) (by omega) (by omega) (by omega) (by omega) (by omega) (by rw [List.take_of_length_le (by rw [List.length_drop, HN0.out]; omega)]; exact hb9) (by rw [List.take_of_length_le (by rw [List.length_drop, HN1.out]; omega)]; exact ht9) (by rw [List.take_of_length_le (by rw [List.length_drop, HN2.out]; omega)]; exact hu9) (by omega) (by omega)
        rw [← hLa.1, ← hLa.2] at this
        exact this
      obtain ⟨d0, d1, d2⟩ := HQW.out wr HLP.out
      obtain ⟨i0, i1, i2⟩ := HTF.out.cells
      have HOB : Hid (∀ k, v.ownBlock = some k → H ≤ k) := hid (fun k hk => (HSX.out.ownb k hk).1)
      clear hLa hb9 ht9 hu9 hlen
      go_wp2_with fail
      refine C20.out.mono ?_
      rintro e w9 ⟨rfl, hb9⟩
      clear d0 d1 d2 i0 i1 i2
      go_wp2_with fail
      refine (C11.out w9 hb9).mono ?_
      rintro e w10 ⟨rfl, vv, hsx, hfx, hob⟩
      have HLP10 := hid ((HLP.out.below hb9).fx hfx HOB.out)
      have HSX10 := hid hsx
      clear hsx hfx hob hb9
      go_wp2_with fail
      go_end0
      refine ⟨rfl, H, vv, HSX10.out, by omega, ?_⟩
      have h1 : Below lo w wl := HBl.out.mono (by omega)
      exact ⟨HLP10.out.os.trans h1.os, HLP10.out.tape.trans h1.tape, HLP10.out.output.trans h1.output, Nat.le_trans h1.size (by have := HLP10.out.size; have := HH.out; omega), fun k hk => (HLP10.out.block k (by omega) (by omega) (by omega) (by omega) (by omega)).trans (h1.block k hk)⟩
end Go.Proofs.Ytakddciegnkpdaa
