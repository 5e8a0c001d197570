/- Paths: plainly; texts, their signs and parts. -/
import Derived.Test.YtemgmbcmppngmaaBase
namespace Go.Proofs.Ytemgmbcmppngmaa
open Go.RowKit
set_option linter.unusedVariables false
set_option linter.unusedSimpArgs false
/-- It is told whether. -/
def BIs (P : Prop) (e : Ending) : Prop := ∃ b : Bool, e = .returned (.bool b) ∧ (b = true ↔ P)
theorem bis_false {P : Prop} (h : ¬ P) : BIs P (.returned (.bool false)) := ⟨false, rfl, ⟨(fun h => by cases h), fun h2 => absurd h2 h⟩⟩
theorem bis_true {P : Prop} (h : P) : BIs P (.returned (.bool true)) := ⟨true, rfl, ⟨fun _ => h, fun _ => rfl⟩⟩
theorem bis_or {P : Prop} {e : Ending} (h : BIs P e) : (P ∧ e = .returned (.bool true)) ∨ (¬ P ∧ e = .returned (.bool false)) := by
  obtain ⟨b, rfl, hb⟩ := h
  cases b with
  | true => exact .inl ⟨hb.1 rfl, rfl⟩
  | false => exact .inr ⟨(fun h => by have := hb.2 h; cases this), rfl⟩
/-- 3.2: the names. -/
def okE (s : List UInt8) : Prop := 1 ≤ s.length ∧ s.length ≤ 50 ∧ s ≠ [46] ∧ s ≠ [46, 46] ∧ s ≠ [46, 103, 105, 116] ∧ ∀ x ∈ s, x ≠ 47 ∧ x ≠ 0
theorem txt_len (l : List UInt8) : (⟨l.toArray⟩ : ByteArray).size = l.length := by simp [ByteArray.size]
/-- The parts of a text. -/
def spl : List UInt8 → List (List UInt8)
  | [] => [[]]
  | c :: t => if c = 47 then [] :: spl t else match spl t with
    | [] => [[c]]
    | p :: ps => (c :: p) :: ps
theorem spl_ne : ∀ s, spl s ≠ []
  | [] => by simp [spl]
  | c :: t => by
    rw [spl]
    split
    · simp
    · split <;> simp
theorem idx_txt (s : List UInt8) (j : Nat) (w : World) (x : UInt8) (h : s[j]? = some x) : (Instr.index 9 (.string ⟨s.toArray⟩) (.int .i64 j)).run Try.prog w = .ok (.int .u8 (x.toNat : Int)) w := by
  obtain ⟨hj, hx⟩ := List.getElem?_eq_some_iff.1 h
  rw [run_index_string (P := Try.prog) w 9 ⟨s.toArray⟩ .i64 j Try.underlying9, dif_pos ⟨by omega, by rw [txt_len]; omega⟩]
  simp only [Int.toNat_natCast]
  rw [← hx]
  rfl
theorem ext_txt (s : List UInt8) (i j : Nat) : (⟨s.toArray⟩ : ByteArray).extract i j = ⟨((s.drop i).take (j - i)).toArray⟩ := by
  apply ByteArray.ext
  simp [ByteArray.data_extract, List.extract]
theorem slc_to (s : List UInt8) (j : Nat) (h : j ≤ s.length) (w : World) : (Instr.slice 9 (.string ⟨s.toArray⟩) none (some (.int .i64 j)) none).run Try.prog w = .ok (.string ⟨(s.take j).toArray⟩) w := by
  rw [run_slice_string_to_if w 9 _ .i64 j Try.underlying9, if_pos ⟨by omega, by rw [txt_len]; omega⟩, Int.toNat_natCast, ext_txt, List.drop_zero, Nat.sub_zero]
theorem slc_mid (s : List UInt8) (i j : Nat) (h1 : i ≤ j) (h2 : j ≤ s.length) (w : World) : (Instr.slice 9 (.string ⟨s.toArray⟩) (some (.int .i64 i)) (some (.int .i64 j)) none).run Try.prog w = .ok (.string ⟨((s.drop i).take (j - i)).toArray⟩) w := by
  rw [run_slice_string w 9 _ .i64 .i64 i j Try.underlying9 (by omega) (by omega) (by rw [txt_len]; omega), Int.toNat_natCast, Int.toNat_natCast, ext_txt]
theorem slc_from (s : List UInt8) (i : Nat) (h : i ≤ s.length) (w : World) : (Instr.slice 9 (.string ⟨s.toArray⟩) (some (.int .i64 i)) none none).run Try.prog w = .ok (.string ⟨(s.drop i).toArray⟩) w := by
  rw [run_slice_string_from_if w 9 _ .i64 i Try.underlying9, if_pos ⟨by omega, by rw [txt_len]; omega⟩, Int.toNat_natCast, ext_txt, txt_len, List.take_of_length_le (by rw [List.length_drop]; omega)]
/-- A part of a text. -/
def cur (s : List UInt8) (f i : Nat) : List UInt8 := (s.drop f).take (i - f)
theorem cur_len (s : List UInt8) (f i : Nat) (h : f ≤ i) (hi : i ≤ s.length) : (cur s f i).length = i - f := by
  simp [cur]; omega
theorem cur_snoc (s : List UInt8) (f i : Nat) (hf : f ≤ i) (x : UInt8) (hx : s[i]? = some x) : cur s f (i + 1) = cur s f i ++ [x] := by
  unfold cur
  rw [show i + 1 - f = (i - f) + 1 by omega, List.take_add_one, List.getElem?_drop, show f + (i - f) = i by omega, hx]
  rfl
theorem byte_num (x : UInt8) (n : Nat) (hn : n < 256) : ((x.toNat : Int) = (n : Int)) ↔ x = UInt8.ofNat n := by
  constructor
  · intro h
    have : x.toNat = n := by omega
    apply UInt8.toNat_inj.1
    rw [this]
    simp
    omega
  · rintro rfl
    simp
    omega
/-- The parts of what is left, behind what there is of one. -/
def tl (p t : List UInt8) : List (List UInt8) := match spl t with
  | [] => [p]
  | q :: qs => (p ++ q) :: qs
theorem tl_nil (t : List UInt8) : tl [] t = spl t := by
  unfold tl
  cases h : spl t with
  | nil => exact absurd h (spl_ne t)
  | cons q qs => simp
theorem tl_end (p : List UInt8) : tl p [] = [p] := by simp [tl, spl]
theorem tl_sep (p t : List UInt8) : tl p (47 :: t) = p :: tl [] t := by
  rw [tl_nil]
  simp [tl, spl]
theorem tl_go (p t : List UInt8) (c : UInt8) (h : c ≠ 47) : tl p (c :: t) = tl (p ++ [c]) t := by
  unfold tl
  rw [spl, if_neg h]
  cases hs : spl t with
  | nil => simp
  | cons q qs => simp
/-- How far a path is gone through. -/
structure Pth (s : List UInt8) (f i : Nat) (dn : List (List UInt8)) : Prop where
  le : f ≤ i
  len : i ≤ s.length
  eq : spl s = dn ++ tl (cur s f i) (s.drop i)
theorem Pth.start (s : List UInt8) : Pth s 0 0 [] := ⟨Nat.le_refl _, Nat.zero_le _, by simp [cur, tl_nil]⟩
theorem Pth.go {s : List UInt8} {f i : Nat} {dn : List (List UInt8)} (h : Pth s f i dn) {x : UInt8} (hx : s[i]? = some x) (hn : x ≠ 47) : Pth s f (i + 1) dn := by
  obtain ⟨hi, hxe⟩ := List.getElem?_eq_some_iff.1 hx
  refine ⟨by have := h.le; omega, by omega, ?_⟩
  rw [h.eq, List.drop_eq_getElem_cons hi, hxe, tl_go _ _ _ hn, cur_snoc s f i h.le x hx]
theorem Pth.sep {s : List UInt8} {f i : Nat} {dn : List (List UInt8)} (h : Pth s f i dn) (hx : s[i]? = some 47) : Pth s (i + 1) (i + 1) (dn ++ [cur s f i]) := by
  obtain ⟨hi, hxe⟩ := List.getElem?_eq_some_iff.1 hx
  refine ⟨Nat.le_refl _, by omega, ?_⟩
  rw [h.eq, List.drop_eq_getElem_cons hi, hxe, tl_sep]
  simp [cur]
theorem Pth.end_ {s : List UInt8} {f i : Nat} {dn : List (List UInt8)} (h : Pth s f i dn) (hi : i = s.length) : spl s = dn ++ [cur s f i] := by
  rw [h.eq, List.drop_eq_nil_of_le (by omega), tl_end]
theorem Pth.part {s : List UInt8} {f i : Nat} {dn : List (List UInt8)} (h : Pth s f i dn) (hx : s[i]? = some 47) : cur s f i ∈ spl s := by rw [(h.sep hx).eq]; simp
/-- 8.1. -/
def okP (s : List UInt8) : Prop := s.length ≤ 100 ∧ ∀ p ∈ spl s, okE p
end Go.Proofs.Ytemgmbcmppngmaa
