/- 'head'. -/
import Derived.Test.YtjpihkheapjigaaDoorPaD
namespace Go.Proofs.YtjpihkheapjigaaDoor
open Go.RowKit
set_option linter.unusedVariables false
set_option linter.unusedSimpArgs false
structure QH (g : Nat) (a b : Int) (W : World) : Prop where
  c0 : W.cell? ⟨g, 0, none⟩ = some (.int .i64 a)
  c1 : W.cell? ⟨g, 1, none⟩ = some (.int .i64 b)
theorem enter24 (x y : Value) (w : World) : (callFunc 24 #[x, y]).run Tryd.prog w = .ok (.enter 24 #[x, y]) w := by kernel_rfl
theorem plc_len (a n : Nat) (ha : a ≤ 50000) (hn : n ≤ 50000) : (plc a n).length ≤ 13 := by
  have h1 := dig_len 5 (a + min n 1) (by omega)
  have h2 := dig_len 5 n (by omega)
  unfold plc
  simp only [List.length_append, List.length_cons]
  omega
set_option maxRecDepth 20000 in
set_option maxHeartbeats 1000000 in
theorem head_any {w : World} (a b : Nat) (p : Option Addr) (c : Nat) (L : List Ed) (hP : PE w p c L) (hl : L.length ≤ 10000) (ha : a ≤ 50000) (hb : b ≤ 50000) (ht : Tab w) :
    Calls Tryd.prog 14 #[.agg #[.int .i64 (a : Int), .int .i64 (b : Int), .slice p L.length c]] w fun e w' => e = .returned (.string ⟨(headT a (cA L) b (cB L)).toArray⟩) ∧ Below w.heap.size w w' := by
  obtain ⟨l, HL⟩ : ∃ n, Hid (L.length = n) := ⟨_, rfl⟩
  obtain ⟨w0, HW0⟩ : ∃ w0, Hid (w.alloc (.cells #[.int .i64 (a : Int), .int .i64 (b : Int), .slice p l c] 41) = w0) := ⟨_, rfl⟩
  obtain ⟨g, HG⟩ : ∃ g, Hid (w.heap.size = g) := ⟨_, rfl⟩
  obtain ⟨n, HN⟩ : ∃ n, Hid (cA L = n) := ⟨_, rfl⟩
  obtain ⟨m, HM⟩ : ∃ n, Hid (cB L = n) := ⟨_, rfl⟩
  have hn : n ≤ 10000 := by rw [← HN.out]; exact Nat.le_trans (cA_le L) hl
  have hm : m ≤ 10000 := by rw [← HM.out]; exact Nat.le_trans (cB_le L) hl
  have HB0 : Hid (Below g w w0) := hid (by rw [← HW0.out, ← HG.out]; exact (Below.refl _ w).alloc (Nat.le_refl _) _)
  have hg0 : g < w0.heap.size := by rw [← HW0.out, ← HG.out]; simp
  have hc0 : w0.cell? ⟨g, 0, none⟩ = some (.int .i64 a) := by rw [← HW0.out, ← HG.out]; simp
  have hc1 : w0.cell? ⟨g, 1, none⟩ = some (.int .i64 b) := by rw [← HW0.out, ← HG.out]; simp
  have hc2 : w0.cell? ⟨g, 2, none⟩ = some (.slice p l c) := by rw [← HW0.out, ← HG.out]; simp
  have C18 : Hid (Calls Tryd.prog 18 #[.slice p l c] w0 fun e w' => e = .returned (.tuple #[.int .i64 (n : Nat), .int .i64 (m : Nat)]) ∧ Below w0.heap.size w0 w') := hid (by
    rw [← HL.out, ← HN.out, ← HM.out]
    exact count_any p c L (hP.below (by rw [HG.out]; exact HB0.out)) hl)
  have HTb : Hid (∀ W, Below w0.heap.size w0 W → Tab W) := fun W hW => (ht.below (by rw [HG.out]; exact HB0.out)).below hW
  have HQ0 : Hid (∀ W, Below w0.heap.size w0 W → QH g a b W) := fun W hW => ⟨by rw [hW.cell (p := ⟨g, 0, none⟩) hg0]; exact hc0, by rw [hW.cell (p := ⟨g, 1, none⟩) hg0]; exact hc1⟩
  have CP : Hid (∀ x y W, x ≤ 50000 → y ≤ 50000 → Below w0.heap.size w0 W → Calls Tryd.prog 24 #[.int .i64 ((x : Nat) : Int), .int .i64 ((y : Nat) : Int)] W fun e w' => e = .returned (.string ⟨(plc x y).toArray⟩) ∧ Below w0.heap.size w0 w') := fun x y W hx hy hW => by
    refine (place_any x y hx hy W (HTb.out W hW)).mono ?_
    rintro e w' ⟨rfl, hb⟩
    exact ⟨rfl, hW.trans (hb.mono hW.size)⟩
  obtain ⟨X, HX⟩ : ∃ X, Hid ((⟨(plc a n).toArray⟩ : ByteArray) = X) := ⟨_, rfl⟩
  obtain ⟨Y, HY⟩ : ∃ X, Hid ((⟨(plc b m).toArray⟩ : ByteArray) = X) := ⟨_, rfl⟩
  have hX : X.size ≤ 13 := by rw [← HX.out]; simpa [ByteArray.size] using plc_len a n ha (by omega)
  have hY : Y.size ≤ 13 := by rw [← HY.out]; simpa [ByteArray.size] using plc_len b m hb (by omega)
  have C1 : Hid (∀ W, Below w0.heap.size w0 W → Calls Tryd.prog 24 #[.int .i64 (a : Int), .int .i64 (n : Int)] W fun e w' => e = .returned (.string X) ∧ Below w0.heap.size w0 w') := fun W hW => by rw [← HX.out]; exact CP.out a n W ha (by omega) hW
  have C2 : Hid (∀ W, Below w0.heap.size w0 W → Calls Tryd.prog 24 #[.int .i64 (b : Int), .int .i64 (m : Int)] W fun e w' => e = .returned (.string Y) ∧ Below w0.heap.size w0 w') := fun W hW => by rw [← HY.out]; exact CP.out b m W hb (by omega) hW
  obtain ⟨X1, HX1⟩ : ∃ Z, Hid ((⟨#[64, 64, 32, 45]⟩ : ByteArray) ++ X = Z) := ⟨_, rfl⟩
  obtain ⟨X2, HX2⟩ : ∃ Z, Hid (X1 ++ (⟨#[32, 43]⟩ : ByteArray) = Z) := ⟨_, rfl⟩
  obtain ⟨X3, HX3⟩ : ∃ Z, Hid (X2 ++ Y = Z) := ⟨_, rfl⟩
  obtain ⟨X4, HX4⟩ : ∃ Z, Hid (X3 ++ (⟨#[32, 64, 64, 10]⟩ : ByteArray) = Z) := ⟨_, rfl⟩
  have hX1 : X1.size = 4 + X.size := by rw [← HX1.out, ByteArray.size_append]; rfl
  have hX2 : X2.size = X1.size + 2 := by rw [← HX2.out, ByteArray.size_append]; rfl
  have hX3 : X3.size = X2.size + Y.size := by rw [← HX3.out, ByteArray.size_append]
  have HR : Hid ((⟨(headT a n b m).toArray⟩ : ByteArray) = X4) := hid (by
    rw [← HX4.out, ← HX3.out, ← HX2.out, ← HX1.out, ← HX.out, ← HY.out, show (⟨#[64, 64, 32, 45]⟩ : ByteArray) = ⟨([64, 64, 32, 45] : Str).toArray⟩ from rfl, show (⟨#[32, 43]⟩ : ByteArray) = ⟨([32, 43] : Str).toArray⟩ from rfl, show (⟨#[32, 64, 64, 10]⟩ : ByteArray) = ⟨([32, 64, 64, 10] : Str).toArray⟩ from rfl, str_add, str_add, str_add, str_add]
    unfold headT
    simp only [List.append_assoc])
  rw [HL.out, HN.out, HM.out, HR.out]
  clear hP ht CP
  go_enter Tryd.func14, Tryd.ntmps14
  rw [HG.out]
  go_wp2_with fail
  rw [HW0.out, HG.out]
  refine C18.out.mono ?_
  rintro e w1 ⟨rfl, hb1⟩
  have HB1 : Hid (Below w0.heap.size w0 w1) := hb1
  clear hb1
  go_wp2_with fail
  have HBD : Hid (Below w0.heap.size w0 w1.drew) := hid (HB1.out.trans ⟨rfl, rfl, rfl, Nat.le_refl _, fun _ _ => rfl⟩)
  refine wp_region_held_drew (S := QH g a b) (by kernel_rfl) (HQ0.out _ HBD.out) (fun hHeld => ?_)
  generalize w1.drew = wd at hHeld HBD ⊢
  refine takeL (i := 0) (v := ?_) rfl (by kernel_rfl) (by kernel_rfl) (by kernel_rfl) (fun _ _ _ h => h) (Or.inl ⟨by rfl, ?_⟩) hHeld ?_
  rotate_left
  · rintro w' ⟨s0, s1⟩; go_simp; rfl
  try simp only [Act.put, List.setIfInBounds_toArray, List.set_cons_zero, List.set_cons_succ]
  refine takeL (i := 1) (v := ?_) rfl (by kernel_rfl) (by kernel_rfl) (by kernel_rfl) (fun _ _ _ h => h) (Or.inl ⟨by rfl, ?_⟩) hHeld ?_
  rotate_left
  · rintro w' ⟨s0, s1⟩; go_simp; rfl
  try simp only [Act.put, List.setIfInBounds_toArray, List.set_cons_zero, List.set_cons_succ]
  refine takeL (i := 2) (v := ?_) rfl (by kernel_rfl) (by kernel_rfl) (by kernel_rfl) (fun _ _ _ h => h) (Or.inl ⟨by rfl, ?_⟩) hHeld ?_
  rotate_left
  · rintro w' ⟨s0, s1⟩; go_simp; rfl
  try simp only [Act.put, List.setIfInBounds_toArray, List.set_cons_zero, List.set_cons_succ]
  refine takeL (i := 6) (v := ?_) rfl (by kernel_rfl) (by kernel_rfl) (by kernel_rfl) (fun _ _ _ h => h) (Or.inl ⟨by rfl, ?_⟩) hHeld ?_
  rotate_left
  · rintro w' ⟨s0, s1⟩; go_simp; rfl
  try simp only [Act.put, List.setIfInBounds_toArray, List.set_cons_zero, List.set_cons_succ]
  refine takeL (i := 7) (v := ?_) rfl (by kernel_rfl) (by kernel_rfl) (by kernel_rfl) (fun _ _ _ h => h) (Or.inl ⟨by rfl, ?_⟩) hHeld ?_
  rotate_left
  · rintro w' ⟨s0, s1⟩; go_simp; rfl
  try simp only [Act.put, List.setIfInBounds_toArray, List.set_cons_zero, List.set_cons_succ]
  refine takeL (i := 8) (v := ?_) rfl (by kernel_rfl) (by kernel_rfl) (by kernel_rfl) (fun _ _ _ h => h) (Or.inl ⟨by rfl, ?_⟩) hHeld ?_
  rotate_left
  · rintro w' ⟨s0, s1⟩; go_simp; rfl
  try simp only [Act.put, List.setIfInBounds_toArray, List.set_cons_zero, List.set_cons_succ]
  refine wpAnyH_ready (rs := [3]) (by kernel_rfl) (by simp) ?_
  refine consL rfl (fun KK hKK => ?_) AllReadyH.nil
  refine step_callv (by rfl) 24 [.tmp 12, .tmp 13] _ [.int .i64 (a : Int), .int .i64 (n : Int)] _ (by rfl) (by rfl) (enter24 _ _) (C1.out _ HBD.out) ?_
  rintro ev w2 ⟨rfl, hb⟩
  refine ⟨_, rfl, ?_⟩
  refine hKK.out _ _ (HQ0.out _ hb) (fun hHeld2 => ?_)
  clear hKK KK
  have HBw2 : Hid (Below w0.heap.size w0 w2) := hb
  clear hb
  try simp only [Act.put, List.setIfInBounds_toArray, List.set_cons_zero, List.set_cons_succ]
  refine takeL (i := 4) (v := .string X1) rfl (by kernel_rfl) (by kernel_rfl) (by kernel_rfl) (fun _ _ _ h => h) (Or.inl ⟨by rfl, ?_⟩) hHeld2 ?_
  · rintro w' ⟨s0, s1⟩; rw [← HX1.out]; go_simp; first | done | omega | rfl
  try simp only [Act.put, List.setIfInBounds_toArray, List.set_cons_zero, List.set_cons_succ]
  refine takeL (i := 5) (v := .string X2) rfl (by kernel_rfl) (by kernel_rfl) (by kernel_rfl) (fun _ _ _ h => h) (Or.inl ⟨by rfl, ?_⟩) hHeld2 ?_
  · rintro w' ⟨s0, s1⟩; rw [← HX2.out]; go_simp; first | done | omega | rfl
  try simp only [Act.put, List.setIfInBounds_toArray, List.set_cons_zero, List.set_cons_succ]
  refine wpAnyH_ready (rs := [9]) (by kernel_rfl) (by simp) ?_
  refine consL rfl (fun KK hKK => ?_) AllReadyH.nil
  refine step_callv (by rfl) 24 [.tmp 18, .tmp 19] _ [.int .i64 (b : Int), .int .i64 (m : Int)] _ (by rfl) (by rfl) (enter24 _ _) (C2.out _ HBw2.out) ?_
  rintro ev w3 ⟨rfl, hb⟩
  refine ⟨_, rfl, ?_⟩
  refine hKK.out _ _ (HQ0.out _ hb) (fun hHeld3 => ?_)
  clear hKK KK
  have HBw3 : Hid (Below w0.heap.size w0 w3) := hb
  clear hb
  try simp only [Act.put, List.setIfInBounds_toArray, List.set_cons_zero, List.set_cons_succ]
  refine takeL (i := 10) (v := .string X3) rfl (by kernel_rfl) (by kernel_rfl) (by kernel_rfl) (fun _ _ _ h => h) (Or.inl ⟨by rfl, ?_⟩) hHeld3 ?_
  · rintro w' ⟨s0, s1⟩; rw [← HX3.out]; go_simp; first | done | omega | rfl
  try simp only [Act.put, List.setIfInBounds_toArray, List.set_cons_zero, List.set_cons_succ]
  refine takeL (i := 11) (v := .string X4) rfl (by kernel_rfl) (by kernel_rfl) (by kernel_rfl) (fun _ _ _ h => h) (Or.inl ⟨by rfl, ?_⟩) hHeld3 ?_
  · rintro w' ⟨s0, s1⟩; rw [← HX4.out]; go_simp; first | done | omega | rfl
  try simp only [Act.put, List.setIfInBounds_toArray, List.set_cons_zero, List.set_cons_succ]
  refine takeL (i := 12) (v := ?_) rfl (by kernel_rfl) (by kernel_rfl) (by kernel_rfl) (fun _ _ _ h => h) (Or.inl ⟨by rfl, ?_⟩) hHeld3 ?_
  rotate_left
  · rintro w' ⟨s0, s1⟩; go_simp; rfl
  try simp only [Act.put, List.setIfInBounds_toArray, List.set_cons_zero, List.set_cons_succ]
  refine wpAnyH_done (by kernel_rfl) ?_ _
  clear hHeld hHeld2 hHeld3
  go_wp2
  go_ret
  exact ⟨rfl, HB0.out.trans (HBw3.out.mono (Nat.le_of_lt hg0))⟩
end Go.Proofs.YtjpihkheapjigaaDoor
