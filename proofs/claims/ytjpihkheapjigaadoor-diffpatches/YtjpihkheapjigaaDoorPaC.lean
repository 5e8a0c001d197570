/- 'hasEnd', 'place', 'writeEdit', 'head'. -/
import Derived.Test.YtjpihkheapjigaaDoorPaB
namespace Go.Proofs.YtjpihkheapjigaaDoor
open Go.RowKit
set_option linter.unusedVariables false
set_option linter.unusedSimpArgs false
theorem pow_at : Tryd.prog.globalNamed "internal/strconv.uint64pow10" = some (Tryd.laysM171_ren.g 17) := by kernel_rfl
theorem Tab.below {w w' : World} (h : Tab w) (hb : Below w.heap.size w w') : Tab w' := by
  have hg := pow_at
  unfold Tab Lib.TabIs World.var? at h ⊢
  rw [hg] at h ⊢
  simp only [Option.bind_some] at h ⊢
  have hlt : Tryd.laysM171_ren.g 17 < w.heap.size := by
    rcases Nat.lt_or_ge (Tryd.laysM171_ren.g 17) w.heap.size with h' | h'
    · exact h'
    · rw [Array.getElem?_eq_none h'] at h; cases h
  rw [hb.block _ hlt]
  exact h
theorem suffix_iff (x : Str) : Lib.hasSuffix x [10] = decide (x.getLast? = some 10) := by
  unfold Lib.hasSuffix
  rcases List.eq_nil_or_concat x with rfl | ⟨l, a, rfl⟩
  · decide
  · rw [List.concat_eq_append, List.getLast?_append]
    simp only [List.getLast?_singleton, Option.some_or, Option.some.injEq]
    rw [List.isSuffixOf, List.reverse_append]
    simp [List.isPrefixOf, Bool.beq_eq_decide_eq, eq_comm]
theorem hasEnd_any (x : Str) (hx : x.length ≤ 100000) (w : World) : Calls Tryd.prog 25 #[.string ⟨x.toArray⟩] w fun e w' => e = .returned (.bool (decide (x.getLast? = some 10))) ∧ w' = w := by
  have HJ : Hid (Calls Tryd.prog 35 #[.string ⟨x.toArray⟩, .string ⟨#[10]⟩] w fun e w' => e = .returned (.bool (decide (x.getLast? = some 10))) ∧ w' = w) := hid (by
    rw [← suffix_iff]
    exact Any.strings_HasSuffix Tryd.lays100 ⟨x.toArray⟩ ⟨#[10]⟩ w (by show x.toArray.size ≤ _; simp; omega))
  obtain ⟨X, HX⟩ : ∃ X, Hid ((⟨x.toArray⟩ : ByteArray) = X) := ⟨_, rfl⟩
  obtain ⟨r, HR⟩ : ∃ X, Hid (decide (x.getLast? = some 10) = X) := ⟨_, rfl⟩
  rw [HX.out, HR.out] at HJ
  rw [HX.out, HR.out]
  go_enter Tryd.func25, Tryd.ntmps25
  go_wp2_with fail
  refine HJ.out.mono ?_
  rintro e w' ⟨rfl, rfl⟩
  go_wp2
  go_ret
  exact ⟨rfl, rfl⟩
theorem dig_len : ∀ (n m : Nat), m < 10 ^ (n + 1) → (Lib.decDigits m).length ≤ n + 1
  | 0, m, h => by rw [Lib.decDigits, dif_pos (by simpa using h)]; simp
  | n + 1, m, h => by
    rw [Lib.decDigits]
    split
    · simp
    · have := dig_len n (m / 10) (by rw [Nat.pow_succ] at h; omega)
      simp
      omega
theorem place_any (a n : Nat) (ha : a ≤ 50000) (hn : n ≤ 50000) (w : World) (ht : Tab w) : Calls Tryd.prog 24 #[.int .i64 (a : Int), .int .i64 (n : Int)] w fun e w' => e = .returned (.string ⟨(plc a n).toArray⟩) ∧ Below w.heap.size w w' := by
  obtain ⟨m, HM⟩ : ∃ m, Hid (a + min n 1 = m) := ⟨_, rfl⟩
  have hm : m ≤ 60000 := by rw [← HM.out]; omega
  have C1 : Hid (Calls Tryd.prog 34 #[.int .i64 (a : Int), .int .i64 (n : Int)] w fun e w' => e = .returned (.int .i64 (m : Nat)) ∧ w' = w) := hid (by rw [← HM.out]; exact start_any a n (by omega) w)
  have C2 : Hid (Calls Tryd.prog 33 #[.int .i64 (m : Int)] w fun e w' => e = .returned (.string ⟨(Lib.decDigits m).toArray⟩) ∧ Below w.heap.size w w') := hid (itoa_any m (by omega) w ht)
  have C3 : Hid (∀ W, Below w.heap.size w W → Calls Tryd.prog 33 #[.int .i64 (n : Int)] W fun e w' => e = .returned (.string ⟨(Lib.decDigits n).toArray⟩) ∧ Below W.heap.size W w') := fun W hW => itoa_any n (by omega) W (ht.below hW)
  obtain ⟨X, HX⟩ : ∃ X, Hid ((⟨(Lib.decDigits m).toArray⟩ : ByteArray) = X) := ⟨_, rfl⟩
  obtain ⟨Y, HY⟩ : ∃ X, Hid ((⟨(Lib.decDigits n).toArray⟩ : ByteArray) = X) := ⟨_, rfl⟩
  obtain ⟨R, HR⟩ : ∃ X, Hid ((⟨(plc a n).toArray⟩ : ByteArray) = X) := ⟨_, rfl⟩
  have hX : X.size ≤ 6 := by rw [← HX.out]; simpa [ByteArray.size] using dig_len 5 m (by omega)
  have hY : Y.size ≤ 6 := by rw [← HY.out]; simpa [ByteArray.size] using dig_len 5 n (by omega)
  have hX1 : ¬ 9223372036854775807 < X.size + 1 := by omega
  have hX2 : ¬ 9223372036854775807 ≤ X.size := by omega
  have hX3 : ¬ 9223372036854775807 < X.size + 1 + Y.size := by omega
  have HE : Hid (X ++ ⟨#[44]⟩ ++ Y = R) := hid (by
    rw [← HR.out, ← HX.out, ← HY.out, show (⟨#[44]⟩ : ByteArray) = ⟨([44] : Str).toArray⟩ from rfl, str_add, str_add, plc, HM.out]
    simp)
  rw [HX.out] at C2
  rw [HY.out] at C3
  rw [HR.out]
  clear ht
  go_enter Tryd.func24, Tryd.ntmps24
  go_wp2_with fail
  refine C1.out.mono ?_
  rintro e w' ⟨rfl, rfl⟩
  go_wp2_with fail
  refine C2.out.mono ?_
  rintro e w1 ⟨rfl, hb1⟩
  have HB1 : Hid (Below w'.heap.size w' w1) := hb1
  have C3' := hid (C3.out w1 hb1)
  clear hb1
  go_wp2_with fail
  refine C3'.out.mono ?_
  rintro e w2 ⟨rfl, hb2⟩
  have HB2 : Hid (Below w'.heap.size w' w2) := hid (HB1.out.trans (hb2.mono HB1.out.size))
  clear hb2
  go_wp2
  go_ret
  exact ⟨(show _ = Ending.returned (.string (X ++ ⟨#[44]⟩ ++ Y)) from rfl).trans (by rw [HE.out]), HB2.out⟩
end Go.Proofs.YtjpihkheapjigaaDoor
