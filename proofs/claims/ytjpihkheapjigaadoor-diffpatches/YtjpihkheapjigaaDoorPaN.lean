/- The document's 'numbers', 'line'. -/
import Derived.Test.YtjpihkheapjigaaDoorPaM
namespace Go.Proofs.YtjpihkheapjigaaDoor
open Go.RowKit
set_option linter.unusedVariables false
set_option linter.unusedSimpArgs false
set_option maxRecDepth 20000 in
theorem numbers_any (a n : Nat) (ha : a ≤ 50000) (hn : n ≤ 50000) (w : World) : Calls Tryd.prog 12 #[.int .i64 (a : Int), .int .i64 (n : Int)] w fun e w' => e = .returned (.string ⟨(plc a n).toArray⟩) ∧ Below w.heap.size w w' := by
  obtain ⟨m, HM⟩ : ∃ m, Hid (a + min n 1 = m) := ⟨_, rfl⟩
  have hm : m ≤ 60000 := by rw [← HM.out]; omega
  have C2 : Hid (Calls Tryd.prog 22 #[.int .i64 (m : Int)] w fun e w' => e = .returned (.string ⟨(Lib.decDigits m).toArray⟩) ∧ Below w.heap.size w w') := hid (decimal_any m (by omega) w)
  have C3 : Hid (∀ W, Calls Tryd.prog 22 #[.int .i64 (n : Int)] W fun e w' => e = .returned (.string ⟨(Lib.decDigits n).toArray⟩) ∧ Below W.heap.size W w') := fun W => decimal_any n (by omega) W
  obtain ⟨X, HX⟩ : ∃ X, Hid ((⟨(Lib.decDigits m).toArray⟩ : ByteArray) = X) := ⟨_, rfl⟩
  obtain ⟨Y, HY⟩ : ∃ X, Hid ((⟨(Lib.decDigits n).toArray⟩ : ByteArray) = X) := ⟨_, rfl⟩
  obtain ⟨R, HR⟩ : ∃ X, Hid ((⟨(plc a n).toArray⟩ : ByteArray) = X) := ⟨_, rfl⟩
  have hX : X.size ≤ 6 := by rw [← HX.out]; simpa [ByteArray.size] using dig_len 5 m (by omega)
  have hY : Y.size ≤ 6 := by rw [← HY.out]; simpa [ByteArray.size] using dig_len 5 n (by omega)
  have hX1 : ¬ 9223372036854775807 < X.size + 1 := by omega
  have hX2 : ¬ 9223372036854775807 ≤ X.size := by omega
  have hX3 : ¬ 9223372036854775807 < X.size + 1 + Y.size := by omega
  have HE : Hid (X ++ ⟨#[44]⟩ ++ Y = R) := hid (by
    rw [← HR.out, ← HX.out, ← HY.out, show (⟨#[44]⟩ : ByteArray) = ⟨([44] : Str).toArray⟩ from rfl, str_add, str_add, plc, HM.out]
    simp)
  rw [HX.out] at C2
  rw [HY.out] at C3
  rw [HR.out]
  by_cases h0 : 0 < n
  · have h0i : (0 : Int) < (n : Int) := by omega
    have hma : (a : Int) + 1 = (m : Int) := by rw [← HM.out]; omega
    go_enter Tryd.func12, Tryd.ntmps12
    go_wp2_with fail
    refine C2.out.mono ?_
    rintro e w1 ⟨rfl, hb1⟩
    have HB1 : Hid (Below w.heap.size w w1) := hb1
    clear hb1
    go_wp2_with fail
    refine (C3.out w1).mono ?_
    rintro e w2 ⟨rfl, hb2⟩
    have HB2 : Hid (Below w.heap.size w w2) := hid (HB1.out.trans (hb2.mono HB1.out.size))
    clear hb2
    go_wp2
    go_ret
    exact ⟨(show _ = Ending.returned (.string (X ++ ⟨#[44]⟩ ++ Y)) from rfl).trans (by rw [HE.out]), HB2.out⟩
  · have h0i : ¬ (0 : Int) < (n : Int) := by omega
    have hma : a = m := by rw [← HM.out]; omega
    subst hma
    go_enter Tryd.func12, Tryd.ntmps12
    go_wp2_with fail
    refine C2.out.mono ?_
    rintro e w1 ⟨rfl, hb1⟩
    have HB1 : Hid (Below w.heap.size w w1) := hb1
    clear hb1
    go_wp2_with fail
    refine (C3.out w1).mono ?_
    rintro e w2 ⟨rfl, hb2⟩
    have HB2 : Hid (Below w.heap.size w w2) := hid (HB1.out.trans (hb2.mono HB1.out.size))
    clear hb2
    go_wp2
    go_ret
    exact ⟨(show _ = Ending.returned (.string (X ++ ⟨#[44]⟩ ++ Y)) from rfl).trans (by rw [HE.out]), HB2.out⟩
set_option maxRecDepth 20000 in
set_option maxHeartbeats 1000000 in
theorem line_any (k : Nat) (x : Str) (hk : k ≤ 2) (h0 : x ≠ []) (hx : x.length ≤ 10000) (w : World) : Calls Tryd.prog 11 #[.agg #[.int .i64 (k : Int), .string ⟨x.toArray⟩]] w fun e w' => e = .returned (.string ⟨(lineT (k, x)).toArray⟩) ∧ Below w.heap.size w w' := by
  obtain ⟨X, HX⟩ : ∃ X, Hid ((⟨x.toArray⟩ : ByteArray) = X) := ⟨_, rfl⟩
  obtain ⟨R, HRR⟩ : ∃ X, Hid ((⟨(lineT (k, x)).toArray⟩ : ByteArray) = X) := ⟨_, rfl⟩
  have hX : X.size ≤ 10000 := by rw [← HX.out]; simpa [ByteArray.size] using hx
  have hX0 : 0 < X.size := by rw [← HX.out]; simpa [ByteArray.size] using List.length_pos_iff.2 h0
  obtain ⟨c, HC⟩ : ∃ c, Hid (x.getLast? = some c) := ⟨x.getLast h0, hid (List.getLast?_eq_some_getLast h0)⟩
  have hlast : ∀ h : X.size - 1 < X.size, X[X.size - 1]'h = c := by
    rw [← HX.out]
    intro h
    have h2 := HC.out
    rw [List.getLast?_eq_getElem?] at h2
    have h3 := (List.getElem?_eq_some_iff.1 h2).2
    exact h3
  rw [HX.out, HRR.out]
  obtain ⟨w0, HW0⟩ : ∃ w0, Hid (w.alloc (.cells #[.int .i64 (k : Int), .string X] 34) = w0) := ⟨_, rfl⟩
  obtain ⟨g, HG⟩ : ∃ g, Hid (w.heap.size = g) := ⟨_, rfl⟩
  have HB0 : Hid (Below g w w0) := hid (by rw [← HW0.out, ← HG.out]; exact (Below.refl _ w).alloc (Nat.le_refl _) _)
  have h1 : ¬ 9223372036854775807 < 1 + X.size := by omega
  rcases (by omega : k = 0 ∨ k = 1 ∨ k = 2) with rfl | rfl | rfl
  · have HS : Hid ((⟨#[32]⟩ : ByteArray) = ⟨[sgn 0].toArray⟩) := hid rfl
    by_cases hc10 : c = 10
    · have hci : (c.toNat : Int) = 10 := by rw [hc10]; rfl
      go_enter Tryd.func11, Tryd.ntmps11
      go_wp2
      go_ret
      refine ⟨(show _ = Ending.returned (.string (⟨#[32]⟩ ++ X)) from rfl).trans ?_, (Below.refl _ w).alloc (Nat.le_refl _) _⟩
      rw [← HRR.out, HS.out, ← HX.out, str_add, lineT, if_pos (by rw [HC.out, hc10])]
      simp
    · have hci : ¬ (c.toNat : Int) = 10 := fun h => hc10 (u8_ten h)
      go_enter Tryd.func11, Tryd.ntmps11
      go_wp2
      go_ret
      refine ⟨(show _ = Ending.returned (.string (⟨#[32]⟩ ++ X ++ ⟨#[10, 92, 32, 78, 111, 32, 110, 101, 119, 108, 105, 110, 101, 32, 97, 116, 32, 101, 110, 100, 32, 111, 102, 32, 102, 105, 108, 101, 10]⟩)) from rfl).trans ?_, (Below.refl _ w).alloc (Nat.le_refl _) _⟩
      rw [← HRR.out, HS.out, ← HX.out, show (⟨#[10, 92, 32, 78, 111, 32, 110, 101, 119, 108, 105, 110, 101, 32, 97, 116, 32, 101, 110, 100, 32, 111, 102, 32, 102, 105, 108, 101, 10]⟩ : ByteArray) = ⟨noE.toArray⟩ from rfl, str_add, str_add, lineT, if_neg (by rw [HC.out]; simpa using hc10)]
      simp
  · have HS : Hid ((⟨#[45]⟩ : ByteArray) = ⟨[sgn 1].toArray⟩) := hid rfl
    by_cases hc10 : c = 10
    · have hci : (c.toNat : Int) = 10 := by rw [hc10]; rfl
      go_enter Tryd.func11, Tryd.ntmps11
      go_wp2
      go_ret
      refine ⟨(show _ = Ending.returned (.string (⟨#[45]⟩ ++ X)) from rfl).trans ?_, (Below.refl _ w).alloc (Nat.le_refl _) _⟩
      rw [← HRR.out, HS.out, ← HX.out, str_add, lineT, if_pos (by rw [HC.out, hc10])]
      simp
    · have hci : ¬ (c.toNat : Int) = 10 := fun h => hc10 (u8_ten h)
      go_enter Tryd.func11, Tryd.ntmps11
      go_wp2
      go_ret
      refine ⟨(show _ = Ending.returned (.string (⟨#[45]⟩ ++ X ++ ⟨#[10, 92, 32, 78, 111, 32, 110, 101, 119, 108, 105, 110, 101, 32, 97, 116, 32, 101, 110, 100, 32, 111, 102, 32, 102, 105, 108, 101, 10]⟩)) from rfl).trans ?_, (Below.refl _ w).alloc (Nat.le_refl _) _⟩
      rw [← HRR.out, HS.out, ← HX.out, show (⟨#[10, 92, 32, 78, 111, 32, 110, 101, 119, 108, 105, 110, 101, 32, 97, 116, 32, 101, 110, 100, 32, 111, 102, 32, 102, 105, 108, 101, 10]⟩ : ByteArray) = ⟨noE.toArray⟩ from rfl, str_add, str_add, lineT, if_neg (by rw [HC.out]; simpa using hc10)]
      simp
  · have HS : Hid ((⟨#[43]⟩ : ByteArray) = ⟨[sgn 2].toArray⟩) := hid rfl
    by_cases hc10 : c = 10
    · have hci : (c.toNat : Int) = 10 := by rw [hc10]; rfl
      go_enter Tryd.func11, Tryd.ntmps11
      go_wp2
      go_ret
      refine ⟨(show _ = Ending.returned (.string (⟨#[43]⟩ ++ X)) from rfl).trans ?_, (Below.refl _ w).alloc (Nat.le_refl _) _⟩
      rw [← HRR.out, HS.out, ← HX.out, str_add, lineT, if_pos (by rw [HC.out, hc10])]
      simp
    · have hci : ¬ (c.toNat : Int) = 10 := fun h => hc10 (u8_ten h)
      go_enter Tryd.func11, Tryd.ntmps11
      go_wp2
      go_ret
      refine ⟨(show _ = Ending.returned (.string (⟨#[43]⟩ ++ X ++ ⟨#[10, 92, 32, 78, 111, 32, 110, 101, 119, 108, 105, 110, 101, 32, 97, 116, 32, 101, 110, 100, 32, 111, 102, 32, 102, 105, 108, 101, 10]⟩)) from rfl).trans ?_, (Below.refl _ w).alloc (Nat.le_refl _) _⟩
      rw [← HRR.out, HS.out, ← HX.out, show (⟨#[10, 92, 32, 78, 111, 32, 110, 101, 119, 108, 105, 110, 101, 32, 97, 116, 32, 101, 110, 100, 32, 111, 102, 32, 102, 105, 108, 101, 10]⟩ : ByteArray) = ⟨noE.toArray⟩ from rfl, str_add, str_add, lineT, if_neg (by rw [HC.out]; simpa using hc10)]
      simp
end Go.Proofs.YtjpihkheapjigaaDoor
