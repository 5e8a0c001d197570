/- The document's 'IsName'. -/
import Derived.Test.YtcfgoiibmhkcnaaDoorNmC
namespace Go.Proofs.YtcfgoiibmhkcnaaDoor
open Go.RowKit
set_option linter.unusedVariables false
set_option linter.unusedSimpArgs false
theorem idx_txt (s : List UInt8) (j : Nat) (w : World) (x : UInt8) (h : s[j]? = some x) : (Instr.index 9 (.string ⟨s.toArray⟩) (.int .i64 j)).run Tryd.prog w = .ok (.int .u8 (x.toNat : Int)) w := by
  obtain ⟨hj, hx⟩ := List.getElem?_eq_some_iff.1 h
  rw [run_index_string (P := Tryd.prog) w 9 ⟨s.toArray⟩ .i64 j Tryd.underlying9, dif_pos ⟨by omega, by rw [txt_len]; omega⟩]
  simp only [Int.toNat_natCast]
  rw [← hx]
  rfl
theorem ext_txt (s : List UInt8) (i j : Nat) : (⟨s.toArray⟩ : ByteArray).extract i j = ⟨((s.drop i).take (j - i)).toArray⟩ := by
  apply ByteArray.ext
  simp [ByteArray.data_extract, List.extract]
theorem slc_to (s : List UInt8) (j : Nat) (h : j ≤ s.length) (w : World) : (Instr.slice 9 (.string ⟨s.toArray⟩) none (some (.int .i64 j)) none).run Tryd.prog w = .ok (.string ⟨(s.take j).toArray⟩) w := by
  rw [run_slice_string_to_if w 9 _ .i64 j Tryd.underlying9, if_pos ⟨by omega, by rw [txt_len]; omega⟩, Int.toNat_natCast, ext_txt, List.drop_zero, Nat.sub_zero]
theorem slc_mid (s : List UInt8) (i j : Nat) (h1 : i ≤ j) (h2 : j ≤ s.length) (w : World) : (Instr.slice 9 (.string ⟨s.toArray⟩) (some (.int .i64 i)) (some (.int .i64 j)) none).run Tryd.prog w = .ok (.string ⟨((s.drop i).take (j - i)).toArray⟩) w := by
  rw [run_slice_string w 9 _ .i64 .i64 i j Tryd.underlying9 (by omega) (by omega) (by rw [txt_len]; omega), Int.toNat_natCast, Int.toNat_natCast, ext_txt]
def lockW : List UInt8 := [46, 108, 111, 99, 107]
theorem suf_iff (l p : List UInt8) : Lib.hasSuffix l p = (l.drop (l.length - p.length) == p) := by
  rw [Lib.hasSuffix, Bool.eq_iff_iff, List.isSuffixOf_iff_suffix, List.suffix_iff_eq_drop, beq_iff_eq]
  exact eq_comm
theorem suf_dot (s : List UInt8) (x : UInt8) (h : s[s.length - 1]? = some x) : Lib.hasSuffix s [46] = (x == 46) := by
  rw [suf_iff]
  obtain ⟨hj, hx⟩ := List.getElem?_eq_some_iff.1 h
  rw [show ([46] : List UInt8).length = 1 from rfl, List.drop_eq_getElem_cons hj, hx, List.drop_eq_nil_of_le (by omega)]
  simp
/-- A part of a text. -/
def cur (s : List UInt8) (f i : Nat) : List UInt8 := (s.drop f).take (i - f)
theorem cur_len (s : List UInt8) (f i : Nat) (h : f ≤ i) (hi : i ≤ s.length) : (cur s f i).length = i - f := by
  simp [cur]; omega
theorem part_none (s : List UInt8) (f : Nat) : partOk (cur s f f) = false := by simp [cur, partOk]
theorem part_dot (s : List UInt8) (f i : Nat) (hf : f < i) (x : UInt8) (hx : s[f]? = some x) : Lib.hasPrefix (cur s f i) [46] = (x == 46) := by
  obtain ⟨hj, hx⟩ := List.getElem?_eq_some_iff.1 hx
  rw [Lib.hasPrefix, cur, List.drop_eq_getElem_cons hj, hx, show i - f = (i - f - 1) + 1 by omega, List.take_succ_cons]
  simp [List.isPrefixOf]
  rw [Bool.eq_iff_iff]
  simp
  exact eq_comm
theorem part_lock (s : List UInt8) (f i : Nat) (hf : f + 5 ≤ i) (hi : i ≤ s.length) : Lib.hasSuffix (cur s f i) lockW = ((s.drop (i - 5)).take 5 == lockW) := by
  rw [suf_iff, cur_len s f i (by omega) hi, show lockW.length = 5 from rfl, cur, List.drop_take, List.drop_drop, show f + (i - f - 5) = i - 5 by omega, show i - f - (i - f - 5) = 5 by omega]
theorem part_short (s : List UInt8) (f i : Nat) (hf : f ≤ i) (h5 : i < f + 5) (hi : i ≤ s.length) : Lib.hasSuffix (cur s f i) lockW = false := by
  rw [suf_iff, Bool.eq_false_iff]
  intro h
  have := congrArg List.length (beq_iff_eq.1 h)
  rw [List.length_drop, cur_len s f i hf hi] at this
  simp [lockW] at this
  omega
theorem part_some (s : List UInt8) (f i : Nat) (hf : f < i) (hi : i ≤ s.length) (x : UInt8) (hx : s[f]? = some x) : partOk (cur s f i) = (!(x == 46) && !Lib.hasSuffix (cur s f i) lockW) := by
  unfold partOk
  rw [part_dot s f i hf x hx]
  have : (cur s f i).isEmpty = false := by
    have := cur_len s f i (by omega) hi
    cases h : cur s f i with
    | nil => rw [h] at this; simp at this; omega
    | cons a l => rfl
  rw [this]
  rfl
theorem cur_snoc (s : List UInt8) (f i : Nat) (hf : f ≤ i) (x : UInt8) (hx : s[i]? = some x) : cur s f (i + 1) = cur s f i ++ [x] := by
  unfold cur
  rw [show i + 1 - f = (i - f) + 1 by omega, List.take_add_one, List.getElem?_drop, show f + (i - f) = i by omega, hx]
  rfl
theorem bad_byte (x : UInt8) (c : Int) (hc : (x.toNat : Int) = c) (h : byteOk x = false) : c < 33 ∨ 126 < c ∨ c = 126 ∨ c = 94 ∨ c = 58 ∨ c = 63 ∨ c = 42 ∨ c = 91 ∨ c = 92 := by
  by_cases h1 : c < 33
  · exact .inl h1
  · by_cases h2 : 126 < c
    · exact .inr (.inl h2)
    · unfold byteOk at h
      rw [decide_eq_true (by omega), decide_eq_true (by omega)] at h
      simp at h
      have h' : x = 126 ∨ x = 94 ∨ x = 58 ∨ x = 63 ∨ x = 42 ∨ x = 91 ∨ x = 92 := by
        apply Classical.byContradiction
        intro hn
        simp only [not_or] at hn
        exact hn.2.2.2.2.2.2 (h hn.1 hn.2.1 hn.2.2.1 hn.2.2.2.1 hn.2.2.2.2.1 hn.2.2.2.2.2.1)
      rcases h' with rfl | rfl | rfl | rfl | rfl | rfl | rfl <;> subst hc <;> decide
theorem good_byte (x : UInt8) (c : Int) (hc : (x.toNat : Int) = c) (h : byteOk x = true) : 33 ≤ c ∧ c ≤ 126 ∧ c ≠ 126 ∧ c ≠ 94 ∧ c ≠ 58 ∧ c ≠ 63 ∧ c ≠ 42 ∧ c ≠ 91 ∧ c ≠ 92 := by
  unfold byteOk at h
  simp at h
  obtain ⟨⟨h1, h2⟩, h3⟩ := h
  have hn : ∀ n : Nat, n < 256 → x ≠ UInt8.ofNat n → c ≠ n := fun n hn hx e => hx (UInt8.toNat_inj.1 (by
    have : x.toNat = n := by omega
    rw [this]
    simp
    omega))
  refine ⟨by omega, by omega, hn 126 (by decide) h3.1, hn 94 (by decide) h3.2.1, hn 58 (by decide) h3.2.2.1, hn 63 (by decide) h3.2.2.2.1, hn 42 (by decide) h3.2.2.2.2.1, hn 91 (by decide) h3.2.2.2.2.2.1, hn 92 (by decide) h3.2.2.2.2.2.2⟩
theorem byte_num (x : UInt8) (n : Nat) (hn : n < 256) : ((x.toNat : Int) = (n : Int)) ↔ x = UInt8.ofNat n := by
  constructor
  · intro h
    exact UInt8.toNat_inj.1 (by
      have : x.toNat = n := by omega
      rw [this]
      simp
      omega)
  · intro h
    rw [h]
    simp
    omega
end Go.Proofs.YtcfgoiibmhkcnaaDoor
