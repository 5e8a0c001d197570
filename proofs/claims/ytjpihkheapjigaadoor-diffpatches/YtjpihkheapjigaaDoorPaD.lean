/- 'writeEdit'. -/
import Derived.Test.YtjpihkheapjigaaDoorPaC
namespace Go.Proofs.YtjpihkheapjigaaDoor
open Go.RowKit
set_option linter.unusedVariables false
set_option linter.unusedSimpArgs false
structure QW (g : Nat) (k : Int) (X : ByteArray) (W : World) : Prop where
  c0 : W.cell? ⟨g, 0, none⟩ = some (.int .i64 k)
  c1 : W.cell? ⟨g, 1, none⟩ = some (.string X)
set_option maxRecDepth 20000 in
set_option maxHeartbeats 1000000 in
theorem writeEdit_any (k : Nat) (x : Str) (hk : k ≤ 2) (hx : x.length ≤ 10000) (w : World) : Calls Tryd.prog 15 #[.agg #[.int .i64 (k : Int), .string ⟨x.toArray⟩]] w fun e w' => e = .returned (.string ⟨(lineT (k, x)).toArray⟩) ∧ Below w.heap.size w w' := by
  have HC : Hid (∀ W, Calls Tryd.prog 25 #[.string ⟨x.toArray⟩] W fun e w' => e = .returned (.bool (decide (x.getLast? = some 10))) ∧ w' = W) := fun W => hasEnd_any x (by omega) W
  obtain ⟨X, HX⟩ : ∃ X, Hid ((⟨x.toArray⟩ : ByteArray) = X) := ⟨_, rfl⟩
  obtain ⟨r, HR⟩ : ∃ r, Hid (decide (x.getLast? = some 10) = r) := ⟨_, rfl⟩
  obtain ⟨R, HRR⟩ : ∃ X, Hid ((⟨(lineT (k, x)).toArray⟩ : ByteArray) = X) := ⟨_, rfl⟩
  obtain ⟨S, HS⟩ : ∃ X, Hid ((⟨[sgn k].toArray⟩ : ByteArray) = X) := ⟨_, rfl⟩
  have hX : X.size ≤ 10000 := by rw [← HX.out]; simpa [ByteArray.size] using hx
  have hS : S.size = 1 := by rw [← HS.out]; rfl
  have hSX : (S ++ X).size = X.size + 1 := by rw [ByteArray.size_append, hS]; omega
  have h1 : ¬ 9223372036854775807 < S.size + X.size := by omega
  have h2 : ¬ 9223372036854775807 < (S ++ X).size + 29 := by omega
  rw [HX.out, HR.out] at HC
  have HE1 : Hid (r = true → S ++ X = R) := fun hr => by
    have : x.getLast? = some 10 := by rw [← HR.out] at hr; simpa using hr
    rw [← HRR.out, ← HS.out, ← HX.out, str_add, lineT, if_pos this]; simp
  have HE2 : Hid (r = false → S ++ X ++ ⟨#[10, 92, 32, 78, 111, 32, 110, 101, 119, 108, 105, 110, 101, 32, 97, 116, 32, 101, 110, 100, 32, 111, 102, 32, 102, 105, 108, 101, 10]⟩ = R) := fun hr => by
    have : ¬ x.getLast? = some 10 := by rw [← HR.out] at hr; simpa using hr
    rw [← HRR.out, ← HS.out, ← HX.out, show (⟨#[10, 92, 32, 78, 111, 32, 110, 101, 119, 108, 105, 110, 101, 32, 97, 116, 32, 101, 110, 100, 32, 111, 102, 32, 102, 105, 108, 101, 10]⟩ : ByteArray) = ⟨noE.toArray⟩ from rfl, str_add, str_add, lineT, if_neg this]; simp
  have HEX : Hid ((⟨#[32, 45, 43]⟩ : ByteArray).extract k (k + 1) = S) := hid (by
    rw [← HS.out]
    rcases (by omega : k = 0 ∨ k = 1 ∨ k = 2) with rfl | rfl | rfl <;> rfl)
  rw [HX.out, HRR.out]
  obtain ⟨w0, HW0⟩ : ∃ w0, Hid (w.alloc (.cells #[.int .i64 (k : Int), .string X] 49) = w0) := ⟨_, rfl⟩
  obtain ⟨g, HG⟩ : ∃ g, Hid (w.heap.size = g) := ⟨_, rfl⟩
  have HB0 : Hid (Below g w w0) := hid (by rw [← HW0.out, ← HG.out]; exact (Below.refl _ w).alloc (Nat.le_refl _) _)
  have hg0 : g < w0.heap.size := by rw [← HW0.out, ← HG.out]; simp
  have hc0 : w0.cell? ⟨g, 0, none⟩ = some (.int .i64 k) := by rw [← HW0.out, ← HG.out]; simp
  have hc1 : w0.cell? ⟨g, 1, none⟩ = some (.string X) := by rw [← HW0.out, ← HG.out]; simp
  go_enter Tryd.func15, Tryd.ntmps15
  rw [HG.out]
  go_wp2_with fail
  rw [HW0.out, HG.out]
  have HQ : Hid (QW g k X w0.drew) := hid ⟨hc0, hc1⟩
  have hk1 : IntKind.i64.wrap ((k : Int) + 1) = (k : Int) + 1 := by rw [IntKind.wrap_i64]; omega
  have hk2 : (0 ≤ (k : Int) + 1 ∧ (k : Int) + 1 ≤ 3) := by omega
  have hk3 : ((k : Int) + 1).toNat = k + 1 := by omega
  have hk4 : (k : Int) ≤ (k : Int) + 1 := by omega
  refine wp_region_held_drew (S := QW g k X) (by kernel_rfl) HQ.out (fun hHeld => ?_)
  refine takeL (i := 0) (v := ?_) rfl (by kernel_rfl) (by kernel_rfl) (by kernel_rfl) (fun _ _ _ h => h) (Or.inl ⟨by rfl, ?_⟩) hHeld ?_
  rotate_left
  · rintro w' ⟨s0, s1⟩; go_simp; rfl
  try simp only [Act.put, List.setIfInBounds_toArray, List.set_cons_zero, List.set_cons_succ]
  refine takeL (i := 1) (v := ?_) rfl (by kernel_rfl) (by kernel_rfl) (by kernel_rfl) (fun _ _ _ h => h) (Or.inl ⟨by rfl, ?_⟩) hHeld ?_
  rotate_left
  · rintro w' ⟨s0, s1⟩; go_simp; rfl
  try simp only [Act.put, List.setIfInBounds_toArray, List.set_cons_zero, List.set_cons_succ]
  refine takeL (i := 2) (v := ?_) rfl (by kernel_rfl) (by kernel_rfl) (by kernel_rfl) (fun _ _ _ h => h) (Or.inl ⟨by rfl, ?_⟩) hHeld ?_
  rotate_left
  · rintro w' ⟨s0, s1⟩; go_simp; rfl
  try simp only [Act.put, List.setIfInBounds_toArray, List.set_cons_zero, List.set_cons_succ]
  refine takeL (i := 3) (v := ?_) rfl (by kernel_rfl) (by kernel_rfl) (by kernel_rfl) (fun _ _ _ h => h) (Or.inl ⟨by rfl, ?_⟩) hHeld ?_
  rotate_left
  · rintro w' ⟨s0, s1⟩; go_simp; rfl
  try simp only [Act.put, List.setIfInBounds_toArray, List.set_cons_zero, List.set_cons_succ]
  refine takeL (i := 4) (v := .int .i64 ((k : Int) + 1)) rfl (by kernel_rfl) (by kernel_rfl) (by kernel_rfl) (fun _ _ _ h => h) (Or.inl ⟨by rfl, ?_⟩) hHeld ?_
  · rintro w' ⟨s0, s1⟩; go_simp; try rw [hk1]
  try simp only [Act.put, List.setIfInBounds_toArray, List.set_cons_zero, List.set_cons_succ]
  refine takeL (i := 5) (v := .string S) rfl (by kernel_rfl) (by kernel_rfl) (by kernel_rfl) (fun _ _ _ h => h) (Or.inl ⟨by rfl, ?_⟩) hHeld ?_
  · rintro w' ⟨s0, s1⟩; go_simp; try rw [HEX.out]
  try simp only [Act.put, List.setIfInBounds_toArray, List.set_cons_zero, List.set_cons_succ]
  refine takeL (i := 6) (v := ?_) rfl (by kernel_rfl) (by kernel_rfl) (by kernel_rfl) (fun _ _ _ h => h) (Or.inl ⟨by rfl, ?_⟩) hHeld ?_
  rotate_left
  · rintro w' ⟨s0, s1⟩; go_simp; rfl
  try simp only [Act.put, List.setIfInBounds_toArray, List.set_cons_zero, List.set_cons_succ]
  refine takeL (i := 7) (v := ?_) rfl (by kernel_rfl) (by kernel_rfl) (by kernel_rfl) (fun _ _ _ h => h) (Or.inl ⟨by rfl, ?_⟩) hHeld ?_
  rotate_left
  · rintro w' ⟨s0, s1⟩; go_simp; rfl
  try simp only [Act.put, List.setIfInBounds_toArray, List.set_cons_zero, List.set_cons_succ]
  refine takeL (i := 8) (v := .string (S ++ X)) rfl (by kernel_rfl) (by kernel_rfl) (by kernel_rfl) (fun _ _ _ h => h) (Or.inl ⟨by rfl, ?_⟩) hHeld ?_
  · rintro w' ⟨s0, s1⟩; go_simp; first | done | omega | (first | rfl | omega)
  try simp only [Act.put, List.setIfInBounds_toArray, List.set_cons_zero, List.set_cons_succ]
  refine takeL (i := 9) (v := ?_) rfl (by kernel_rfl) (by kernel_rfl) (by kernel_rfl) (fun _ _ _ h => h) (Or.inl ⟨by rfl, ?_⟩) hHeld ?_
  rotate_left
  · rintro w' ⟨s0, s1⟩; go_simp; rfl
  try simp only [Act.put, List.setIfInBounds_toArray, List.set_cons_zero, List.set_cons_succ]
  refine wpAnyH_done (by kernel_rfl) ?_ _
  clear hHeld
  go_wp2_with fail
  refine (HC.out _).mono ?_
  rintro e w' ⟨rfl, rfl⟩
  have HBD : Hid (Below g w w0.drew) := hid (HB0.out.trans ⟨rfl, rfl, rfl, Nat.le_refl _, fun _ _ => rfl⟩)
  cases hr : r
  · go_wp2
    go_ret
    exact ⟨(show _ = Ending.returned (.string (S ++ X ++ ⟨#[10, 92, 32, 78, 111, 32, 110, 101, 119, 108, 105, 110, 101, 32, 97, 116, 32, 101, 110, 100, 32, 111, 102, 32, 102, 105, 108, 101, 10]⟩)) from rfl).trans (by rw [HE2.out hr]), HBD.out⟩
  · go_wp2
    go_ret
    exact ⟨(show _ = Ending.returned (.string (S ++ X)) from rfl).trans (by rw [HE1.out hr]), HBD.out⟩
end Go.Proofs.YtjpihkheapjigaaDoor
