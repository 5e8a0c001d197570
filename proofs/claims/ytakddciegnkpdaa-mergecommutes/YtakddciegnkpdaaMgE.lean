/- 'between'. -/
import Derived.Test.YtakddciegnkpdaaMgD
namespace Go.Proofs.Ytakddciegnkpdaa
open Go.RowKit
set_option linter.unusedVariables false
set_option linter.unusedSimpArgs false
theorem step_skip {P : Program} {ops : Array Oper} {o : Oper} {a : Act} {w w' : World} {K : Act → World → Prop} {Q : Exit → Act → World → Prop} {E : Prop} (hg : o.guard = none) (hr : (execOp a.eval o).run P w = .ok .skip w') (h : K (a.put o.dst undef) w') :
    if Region.wanted o (yielded ops a.tmps) = true then Oper.wp P o a w K Q else E := by
  have hw : Region.wanted o (yielded ops a.tmps) = true := by simp [Region.wanted, hg]
  rw [if_pos hw]
  unfold Oper.wp
  rw [hr]
  exact h
theorem step_store {P : Program} {ops : Array Oper} {o : Oper} {a : Act} {w : World} {K : Act → World → Prop} {Q : Exit → Act → World → Prop} {E : Prop} (hg : o.guard = none) (ty : TypeId) (x y : Operand) (ho : o.op = .store ty x y) (b of : Nat) (cells : Array Value) (hx : a.eval x = .pointer (some ⟨b, of, none⟩)) (hy : a.eval y = .agg cells)
    (ht : w.there b of cells.size) (hi : (P.info? ty).map (·.size) = some cells.size) (h1 : cells.all (·.oneCell') = true) (h : K (a.put o.dst undef) (w.setCells b of cells.toList)) :
    if Region.wanted o (yielded ops a.tmps) = true then Oper.wp P o a w K Q else E := by
  have hw : Region.wanted o (yielded ops a.tmps) = true := by simp [Region.wanted, hg]
  rw [if_pos hw]
  exact wp_store_mid ty x y ho b of cells hx hy ht hi h1 h
structure QW (g : Nat) (b0 b1 b2 : Value) (f0 f1 f2 t0 t1 t2 : Int) (W : World) : Prop where
  c0 : W.cell? ⟨g, 0, none⟩ = some b0
  c1 : W.cell? ⟨g, 1, none⟩ = some b1
  c2 : W.cell? ⟨g, 2, none⟩ = some b2
  d0 : W.cell? ⟨g + 1, 0, none⟩ = some (.int .i64 f0)
  d1 : W.cell? ⟨g + 1, 1, none⟩ = some (.int .i64 f1)
  d2 : W.cell? ⟨g + 1, 2, none⟩ = some (.int .i64 f2)
  e0 : W.cell? ⟨g + 1 + 1, 0, none⟩ = some (.int .i64 t0)
  e1 : W.cell? ⟨g + 1 + 1, 1, none⟩ = some (.int .i64 t1)
  e2 : W.cell? ⟨g + 1 + 1, 2, none⟩ = some (.int .i64 t2)
theorem three_of {w : World} {R : Nat} {a b c : Value} {t : TypeId} (h : w.heap[R]? = some (.cells #[a, b, c] t (0, 0))) : w.cell? ⟨R, 0, none⟩ = some a ∧ w.cell? ⟨R, 1, none⟩ = some b ∧ w.cell? ⟨R, 2, none⟩ = some c :=
  ⟨by rw [cell_of_row _ R 0 _ _ _ h]; rfl, by rw [cell_of_row _ R 1 _ _ _ h]; rfl, by rw [cell_of_row _ R 2 _ _ _ h]; rfl⟩
theorem heap_old (w : World) (o : Obj) (k : Nat) (x : Obj) (h : w.heap[k]? = some x) : (w.alloc o).heap[k]? = some x := by
  have hk := (Array.getElem?_eq_some_iff.1 h).1
  show (w.heap.push o)[k]? = _
  rw [Array.getElem?_push_lt hk, ← Array.getElem?_eq_getElem hk]
  exact h
theorem size_alloc (w : World) (o : Obj) : (w.alloc o).heap.size = w.heap.size + 1 := by simp
set_option maxRecDepth 20000 in
set_option maxHeartbeats 2000000 in
theorem betw_any (w : World) (a0 a1 a2 : Option Addr) (n0 n1 n2 c0 c1 c2 f0 f1 f2 t0 t1 t2 : Nat) (h0 : f0 ≤ t0) (k0 : t0 ≤ c0) (h1 : f1 ≤ t1) (k1 : t1 ≤ c1) (h2 : f2 ≤ t2) (k2 : t2 ≤ c2) :
    Calls Try.prog 20 #[.agg #[.slice a0 n0 c0, .slice a1 n1 c1, .slice a2 n2 c2], .agg #[.int .i64 (f0 : Int), .int .i64 (f1 : Int), .int .i64 (f2 : Int)], .agg #[.int .i64 (t0 : Int), .int .i64 (t1 : Int), .int .i64 (t2 : Int)]] w fun e w' =>
      e = .returned (.agg #[.slice (adX 1 a0 c0 f0) (t0 - f0 : Nat) (c0 - f0 : Nat), .slice (adX 1 a1 c1 f1) (t1 - f1 : Nat) (c1 - f1 : Nat), .slice (adX 1 a2 c2 f2) (t2 - f2 : Nat) (c2 - f2 : Nat)]) ∧ Below w.heap.size w w' := by
  have s0 := sl22 a0 n0 c0 f0 t0 t0 rfl h0 k0
  have s1 := sl22 a1 n1 c1 f1 t1 t1 rfl h1 k1
  have s2 := sl22 a2 n2 c2 f2 t2 t2 rfl h2 k2
  obtain ⟨b0, HX0⟩ : ∃ x, Hid (adX 1 a0 c0 f0 = x) := ⟨_, rfl⟩
  obtain ⟨m0, HM0⟩ : ∃ x, Hid (t0 - f0 = x) := ⟨_, rfl⟩
  obtain ⟨r0, HR0⟩ : ∃ x, Hid (c0 - f0 = x) := ⟨_, rfl⟩
  obtain ⟨b1, HX1⟩ : ∃ x, Hid (adX 1 a1 c1 f1 = x) := ⟨_, rfl⟩
  obtain ⟨m1, HM1⟩ : ∃ x, Hid (t1 - f1 = x) := ⟨_, rfl⟩
  obtain ⟨r1, HR1⟩ : ∃ x, Hid (c1 - f1 = x) := ⟨_, rfl⟩
  obtain ⟨b2, HX2⟩ : ∃ x, Hid (adX 1 a2 c2 f2 = x) := ⟨_, rfl⟩
  obtain ⟨m2, HM2⟩ : ∃ x, Hid (t2 - f2 = x) := ⟨_, rfl⟩
  obtain ⟨r2, HR2⟩ : ∃ x, Hid (c2 - f2 = x) := ⟨_, rfl⟩
  rw [HX0.out, HM0.out, HR0.out] at s0 ⊢
  rw [HX1.out, HM1.out, HR1.out] at s1 ⊢
  rw [HX2.out, HM2.out, HR2.out] at s2 ⊢
  obtain ⟨g, HG⟩ : ∃ g, Hid (w.heap.size = g) := ⟨_, rfl⟩
  obtain ⟨W1, HW1⟩ : ∃ u, Hid (w.alloc (.cells #[.slice a0 n0 c0, .slice a1 n1 c1, .slice a2 n2 c2] 31) = u) := ⟨_, rfl⟩
  obtain ⟨W2, HW2⟩ : ∃ u, Hid (W1.alloc (.cells #[.int .i64 (f0 : Int), .int .i64 (f1 : Int), .int .i64 (f2 : Int)] 46) = u) := ⟨_, rfl⟩
  obtain ⟨W3, HW3⟩ : ∃ u, Hid (W2.alloc (.cells #[.int .i64 (t0 : Int), .int .i64 (t1 : Int), .int .i64 (t2 : Int)] 46) = u) := ⟨_, rfl⟩
  obtain ⟨W4, HW4⟩ : ∃ u, Hid (W3.alloc (.cells #[.slice none 0 0, .slice none 0 0, .slice none 0 0] 31) = u) := ⟨_, rfl⟩
  have z1 : W1.heap.size = g + 1 := by rw [← HW1.out, ← HG.out]; exact size_alloc _ _
  have z2 : W2.heap.size = g + 1 + 1 := by rw [← HW2.out, ← z1]; exact size_alloc _ _
  have z3 : W3.heap.size = g + 1 + 1 + 1 := by rw [← HW3.out, ← z2]; exact size_alloc _ _
  have y1 : W1.heap[g]? = some (.cells #[.slice a0 n0 c0, .slice a1 n1 c1, .slice a2 n2 c2] 31 (0, 0)) := by rw [← HW1.out, ← HG.out]; exact heap_alloc_new _ _
  have y2 : W2.heap[g + 1]? = some (.cells #[.int .i64 (f0 : Int), .int .i64 (f1 : Int), .int .i64 (f2 : Int)] 46 (0, 0)) := by rw [← HW2.out, ← z1]; exact heap_alloc_new _ _
  have y3 : W3.heap[g + 1 + 1]? = some (.cells #[.int .i64 (t0 : Int), .int .i64 (t1 : Int), .int .i64 (t2 : Int)] 46 (0, 0)) := by rw [← HW3.out, ← z2]; exact heap_alloc_new _ _
  have y4 : W4.heap[g + 1 + 1 + 1]? = some (.cells #[.slice none 0 0, .slice none 0 0, .slice none 0 0] 31 (0, 0)) := by rw [← HW4.out, ← z3]; exact heap_alloc_new _ _
  have y1' : W4.heap[g]? = some (.cells #[.slice a0 n0 c0, .slice a1 n1 c1, .slice a2 n2 c2] 31 (0, 0)) := by rw [← HW4.out]; refine heap_old _ _ _ _ ?_; rw [← HW3.out]; refine heap_old _ _ _ _ ?_; rw [← HW2.out]; exact heap_old _ _ _ _ y1
  have y2' : W4.heap[g + 1]? = some (.cells #[.int .i64 (f0 : Int), .int .i64 (f1 : Int), .int .i64 (f2 : Int)] 46 (0, 0)) := by rw [← HW4.out]; refine heap_old _ _ _ _ ?_; rw [← HW3.out]; exact heap_old _ _ _ _ y2
  have y3' : W4.heap[g + 1 + 1]? = some (.cells #[.int .i64 (t0 : Int), .int .i64 (t1 : Int), .int .i64 (t2 : Int)] 46 (0, 0)) := by rw [← HW4.out]; exact heap_old _ _ _ _ y3
  have HQ : Hid (QW g (.slice a0 n0 c0) (.slice a1 n1 c1) (.slice a2 n2 c2) f0 f1 f2 t0 t1 t2 W4.drew) := hid (by
    obtain ⟨p0, p1, p2⟩ := three_of y1'
    obtain ⟨q0, q1, q2⟩ := three_of y2'
    obtain ⟨r0, r1, r2⟩ := three_of y3'
    exact ⟨p0, p1, p2, q0, q1, q2, r0, r1, r2⟩)
  have HTH : Hid (W4.drew.there (g + 1 + 1 + 1) 0 3) := hid (fun j hj => by
    obtain ⟨p0, p1, p2⟩ := three_of y4
    have hc : (W4.cell? ⟨g + 1 + 1 + 1, j, none⟩).isSome = true := by
      match j, hj with
      | 0, _ => rw [p0]; rfl
      | 1, _ => rw [p1]; rfl
      | 2, _ => rw [p2]; rfl
    rw [Nat.zero_add]
    exact ⟨hc, frozen_of_row W4 (g + 1 + 1 + 1) j _ _ y4⟩)
  have HB : Hid (Below g w W4.drew) := hid (by
    have b1 : Below g w W1 := by rw [← HW1.out, ← HG.out]; exact (Below.refl _ w).alloc (Nat.le_refl _) _
    have b2 : Below g w W2 := by rw [← HW2.out]; exact b1.alloc (by omega) _
    have b3 : Below g w W3 := by rw [← HW3.out]; exact b2.alloc (by omega) _
    have b4 : Below g w W4 := by rw [← HW4.out]; exact b3.alloc (by omega) _
    exact b4.trans ⟨rfl, rfl, rfl, Nat.le_refl _, fun _ _ => rfl⟩)
  have hp2 : W1.heap.size = g + 1 := z1
  clear h0 k0 h1 k1 h2 k2 y1 y2 y3 y4 y1' y2' y3'
  go_enter Try.func20, Try.ntmps20
  go_wp2_with fail
  rw [HW1.out, HW2.out, HW3.out, HW4.out, HG.out]
  have hS0 := HQ.out
  refine region_U (QW g (.slice a0 n0 c0) (.slice a1 n1 c1) (.slice a2 n2 c2) f0 f1 f2 t0 t1 t2) 22 (by kernel_rfl) ?_
  generalize W4.drew = w5 at hS0 HTH HB ⊢
  refine takeU (i := 0) (v := ?_) rfl (by kernel_rfl) (by kernel_rfl) (by kernel_rfl) (by kernel_rfl) (fun _ _ _ h => h) (Or.inl ⟨by rfl, ?_⟩) hS0 ?_
  rotate_left
  · rintro w' ⟨d1, d2, d3, d4, d5, d6, d7, d8, d9⟩; go_simp; rfl
  try simp only [Act.put, List.setIfInBounds_toArray, List.set_cons_zero, List.set_cons_succ]
  refine takeU (i := 1) (v := ?_) rfl (by kernel_rfl) (by kernel_rfl) (by kernel_rfl) (by kernel_rfl) (fun _ _ _ h => h) (Or.inl ⟨by rfl, ?_⟩) hS0 ?_
  rotate_left
  · rintro w' ⟨d1, d2, d3, d4, d5, d6, d7, d8, d9⟩; go_simp; rfl
  try simp only [Act.put, List.setIfInBounds_toArray, List.set_cons_zero, List.set_cons_succ]
  refine takeU (i := 2) (v := ?_) rfl (by kernel_rfl) (by kernel_rfl) (by kernel_rfl) (by kernel_rfl) (fun _ _ _ h => h) (Or.inl ⟨by rfl, ?_⟩) hS0 ?_
  rotate_left
  · rintro w' ⟨d1, d2, d3, d4, d5, d6, d7, d8, d9⟩; go_simp; rfl
  try simp only [Act.put, List.setIfInBounds_toArray, List.set_cons_zero, List.set_cons_succ]
  refine takeU (i := 3) (v := ?_) rfl (by kernel_rfl) (by kernel_rfl) (by kernel_rfl) (by kernel_rfl) (fun _ _ _ h => h) (Or.inl ⟨by rfl, ?_⟩) hS0 ?_
  rotate_left
  · rintro w' ⟨d1, d2, d3, d4, d5, d6, d7, d8, d9⟩; go_simp; rfl
  try simp only [Act.put, List.setIfInBounds_toArray, List.set_cons_zero, List.set_cons_succ]
  refine takeU (i := 4) (v := ?_) rfl (by kernel_rfl) (by kernel_rfl) (by kernel_rfl) (by kernel_rfl) (fun _ _ _ h => h) (Or.inl ⟨by rfl, ?_⟩) hS0 ?_
  rotate_left
  · rintro w' ⟨d1, d2, d3, d4, d5, d6, d7, d8, d9⟩; go_simp; rfl
  try simp only [Act.put, List.setIfInBounds_toArray, List.set_cons_zero, List.set_cons_succ]
  refine takeU (i := 5) (v := ?_) rfl (by kernel_rfl) (by kernel_rfl) (by kernel_rfl) (by kernel_rfl) (fun _ _ _ h => h) (Or.inl ⟨by rfl, ?_⟩) hS0 ?_
  rotate_left
  · rintro w' ⟨d1, d2, d3, d4, d5, d6, d7, d8, d9⟩; go_simp; rfl
  try simp only [Act.put, List.setIfInBounds_toArray, List.set_cons_zero, List.set_cons_succ]
  refine takeU (i := 6) (v := .slice b0 m0 r0) rfl (by kernel_rfl) (by kernel_rfl) (by kernel_rfl) (by kernel_rfl) (fun _ _ _ h => h) (Or.inl ⟨by rfl, ?_⟩) hS0 ?_
  · rintro w' ⟨d1, d2, d3, d4, d5, d6, d7, d8, d9⟩; go_simp; try rfl
  try simp only [Act.put, List.setIfInBounds_toArray, List.set_cons_zero, List.set_cons_succ]
  refine takeU (i := 7) (v := ?_) rfl (by kernel_rfl) (by kernel_rfl) (by kernel_rfl) (by kernel_rfl) (fun _ _ _ h => h) (Or.inl ⟨by rfl, ?_⟩) hS0 ?_
  rotate_left
  · rintro w' ⟨d1, d2, d3, d4, d5, d6, d7, d8, d9⟩; go_simp; rfl
  try simp only [Act.put, List.setIfInBounds_toArray, List.set_cons_zero, List.set_cons_succ]
  refine takeU (i := 8) (v := ?_) rfl (by kernel_rfl) (by kernel_rfl) (by kernel_rfl) (by kernel_rfl) (fun _ _ _ h => h) (Or.inl ⟨by rfl, ?_⟩) hS0 ?_
  rotate_left
  · rintro w' ⟨d1, d2, d3, d4, d5, d6, d7, d8, d9⟩; go_simp; rfl
  try simp only [Act.put, List.setIfInBounds_toArray, List.set_cons_zero, List.set_cons_succ]
  refine takeU (i := 9) (v := ?_) rfl (by kernel_rfl) (by kernel_rfl) (by kernel_rfl) (by kernel_rfl) (fun _ _ _ h => h) (Or.inl ⟨by rfl, ?_⟩) hS0 ?_
  rotate_left
  · rintro w' ⟨d1, d2, d3, d4, d5, d6, d7, d8, d9⟩; go_simp; rfl
  try simp only [Act.put, List.setIfInBounds_toArray, List.set_cons_zero, List.set_cons_succ]
  refine takeU (i := 10) (v := ?_) rfl (by kernel_rfl) (by kernel_rfl) (by kernel_rfl) (by kernel_rfl) (fun _ _ _ h => h) (Or.inl ⟨by rfl, ?_⟩) hS0 ?_
  rotate_left
  · rintro w' ⟨d1, d2, d3, d4, d5, d6, d7, d8, d9⟩; go_simp; rfl
  try simp only [Act.put, List.setIfInBounds_toArray, List.set_cons_zero, List.set_cons_succ]
  refine takeU (i := 11) (v := ?_) rfl (by kernel_rfl) (by kernel_rfl) (by kernel_rfl) (by kernel_rfl) (fun _ _ _ h => h) (Or.inl ⟨by rfl, ?_⟩) hS0 ?_
  rotate_left
  · rintro w' ⟨d1, d2, d3, d4, d5, d6, d7, d8, d9⟩; go_simp; rfl
  try simp only [Act.put, List.setIfInBounds_toArray, List.set_cons_zero, List.set_cons_succ]
  refine takeU (i := 12) (v := ?_) rfl (by kernel_rfl) (by kernel_rfl) (by kernel_rfl) (by kernel_rfl) (fun _ _ _ h => h) (Or.inl ⟨by rfl, ?_⟩) hS0 ?_
  rotate_left
  · rintro w' ⟨d1, d2, d3, d4, d5, d6, d7, d8, d9⟩; go_simp; rfl
  try simp only [Act.put, List.setIfInBounds_toArray, List.set_cons_zero, List.set_cons_succ]
  refine takeU (i := 13) (v := .slice b1 m1 r1) rfl (by kernel_rfl) (by kernel_rfl) (by kernel_rfl) (by kernel_rfl) (fun _ _ _ h => h) (Or.inl ⟨by rfl, ?_⟩) hS0 ?_
  · rintro w' ⟨d1, d2, d3, d4, d5, d6, d7, d8, d9⟩; go_simp; try rfl
  try simp only [Act.put, List.setIfInBounds_toArray, List.set_cons_zero, List.set_cons_succ]
  refine takeU (i := 14) (v := ?_) rfl (by kernel_rfl) (by kernel_rfl) (by kernel_rfl) (by kernel_rfl) (fun _ _ _ h => h) (Or.inl ⟨by rfl, ?_⟩) hS0 ?_
  rotate_left
  · rintro w' ⟨d1, d2, d3, d4, d5, d6, d7, d8, d9⟩; go_simp; rfl
  try simp only [Act.put, List.setIfInBounds_toArray, List.set_cons_zero, List.set_cons_succ]
  refine takeU (i := 15) (v := ?_) rfl (by kernel_rfl) (by kernel_rfl) (by kernel_rfl) (by kernel_rfl) (fun _ _ _ h => h) (Or.inl ⟨by rfl, ?_⟩) hS0 ?_
  rotate_left
  · rintro w' ⟨d1, d2, d3, d4, d5, d6, d7, d8, d9⟩; go_simp; rfl
  try simp only [Act.put, List.setIfInBounds_toArray, List.set_cons_zero, List.set_cons_succ]
  refine takeU (i := 16) (v := ?_) rfl (by kernel_rfl) (by kernel_rfl) (by kernel_rfl) (by kernel_rfl) (fun _ _ _ h => h) (Or.inl ⟨by rfl, ?_⟩) hS0 ?_
  rotate_left
  · rintro w' ⟨d1, d2, d3, d4, d5, d6, d7, d8, d9⟩; go_simp; rfl
  try simp only [Act.put, List.setIfInBounds_toArray, List.set_cons_zero, List.set_cons_succ]
  refine takeU (i := 17) (v := ?_) rfl (by kernel_rfl) (by kernel_rfl) (by kernel_rfl) (by kernel_rfl) (fun _ _ _ h => h) (Or.inl ⟨by rfl, ?_⟩) hS0 ?_
  rotate_left
  · rintro w' ⟨d1, d2, d3, d4, d5, d6, d7, d8, d9⟩; go_simp; rfl
  try simp only [Act.put, List.setIfInBounds_toArray, List.set_cons_zero, List.set_cons_succ]
  refine takeU (i := 18) (v := ?_) rfl (by kernel_rfl) (by kernel_rfl) (by kernel_rfl) (by kernel_rfl) (fun _ _ _ h => h) (Or.inl ⟨by rfl, ?_⟩) hS0 ?_
  rotate_left
  · rintro w' ⟨d1, d2, d3, d4, d5, d6, d7, d8, d9⟩; go_simp; rfl
  try simp only [Act.put, List.setIfInBounds_toArray, List.set_cons_zero, List.set_cons_succ]
  refine takeU (i := 19) (v := ?_) rfl (by kernel_rfl) (by kernel_rfl) (by kernel_rfl) (by kernel_rfl) (fun _ _ _ h => h) (Or.inl ⟨by rfl, ?_⟩) hS0 ?_
  rotate_left
  · rintro w' ⟨d1, d2, d3, d4, d5, d6, d7, d8, d9⟩; go_simp; rfl
  try simp only [Act.put, List.setIfInBounds_toArray, List.set_cons_zero, List.set_cons_succ]
  refine takeU (i := 20) (v := .slice b2 m2 r2) rfl (by kernel_rfl) (by kernel_rfl) (by kernel_rfl) (by kernel_rfl) (fun _ _ _ h => h) (Or.inl ⟨by rfl, ?_⟩) hS0 ?_
  · rintro w' ⟨d1, d2, d3, d4, d5, d6, d7, d8, d9⟩; go_simp; try rfl
  try simp only [Act.put, List.setIfInBounds_toArray, List.set_cons_zero, List.set_cons_succ]
  refine takeU (i := 21) (v := .agg #[.slice b0 m0 r0, .slice b1 m1 r1, .slice b2 m2 r2]) rfl (by kernel_rfl) (by kernel_rfl) (by kernel_rfl) (by kernel_rfl) (fun _ _ _ h => h) (Or.inl ⟨by rfl, ?_⟩) hS0 ?_
  · rintro w' ⟨d1, d2, d3, d4, d5, d6, d7, d8, d9⟩; go_simp; try rfl
  try simp only [Act.put, List.setIfInBounds_toArray, List.set_cons_zero, List.set_cons_succ]
  refine readyU1 (i := 22) (by kernel_rfl) (consU rfl (fun KK hKK => ?_))
  refine step_store rfl 31 _ _ rfl (g + 1 + 1 + 1) 0 #[.slice b0 m0 r0, .slice b1 m1 r1, .slice b2 m2 r2] rfl rfl HTH.out (by kernel_rfl) (all_oneCell_toArray (cs := [.slice b0 m0 r0, .slice b1 m1 r1, .slice b2 m2 r2]) (fun v hv => by simp only [List.mem_cons, List.not_mem_nil, or_false] at hv; rcases hv with rfl | rfl | rfl <;> rfl)) ?_
  refine hKK.out _ _ (.inl rfl) ?_
  clear hKK KK
  try simp only [Act.put, List.setIfInBounds_toArray, List.set_cons_zero, List.set_cons_succ]
  refine doneU (by kernel_rfl) ?_ _
  have HR : Hid ((w5.setCells (g + 1 + 1 + 1) 0 [.slice b0 m0 r0, .slice b1 m1 r1, .slice b2 m2 r2]).rangeAt (g + 1 + 1 + 1) 0 [.slice b0 m0 r0, .slice b1 m1 r1, .slice b2 m2 r2]) := hid (World.rangeAt_setCells_same _ _ _ _ HTH.out)
  have HB' : Hid (Below g w (w5.setCells (g + 1 + 1 + 1) 0 [.slice b0 m0 r0, .slice b1 m1 r1, .slice b2 m2 r2])) := hid (below_setCells (by omega) _ _ _ _ HB.out)
  clear hS0 HTH HB
  try simp only [List.toList_toArray] at *
  generalize w5.setCells (g + 1 + 1 + 1) 0 [.slice b0 m0 r0, .slice b1 m1 r1, .slice b2 m2 r2] = w6 at HR HB' ⊢
  try simp only [Exit.then]
  go_wp2
  refine bodyPost_ret (results_mid rfl _ _ (g + 1 + 1 + 1) [.slice b0 m0 r0, .slice b1 m1 r1, .slice b2 m2 r2] _ rfl HR.out Try.underlying31 rfl (by kernel_rfl)) rfl ?_
  exact ⟨rfl, by rw [HG.out]; exact HB'.out⟩
end Go.Proofs.Ytakddciegnkpdaa
