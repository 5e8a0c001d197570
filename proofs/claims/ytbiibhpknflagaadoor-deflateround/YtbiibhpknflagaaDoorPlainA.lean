/- THE PLAIN MATHEMATICS OF 1.1: Adler's two numbers; CRC-32 bit by bit and by fours. Nothing of the dump. -/
import Derived.Laws.BitsAllLaws
namespace Go.Proofs.YtbiibhpknflagaaDoor.Plain

/-- One byte more of Adler's two numbers. -/
def adStep (p : Int × Int) (x : Int) : Int × Int := ((p.1 + x) % 65521, (p.2 + (p.1 + x) % 65521) % 65521)
def ad (l : List Int) : Int × Int := l.foldl adStep (1, 0)
theorem ad_nil : ad [] = (1, 0) := rfl
theorem ad_snoc (l : List Int) (x : Int) : ad (l ++ [x]) = adStep (ad l) x := by simp [ad]
theorem ad_bd (l : List Int) : 0 ≤ (ad l).1 ∧ (ad l).1 < 65521 ∧ 0 ≤ (ad l).2 ∧ (ad l).2 < 65521 := by
  rcases List.eq_nil_or_concat l with rfl | ⟨m, x, rfl⟩
  · simp [ad]
  · simp only [List.concat_eq_append, ad_snoc, adStep]; omega
def adler (l : List Int) : Int := (ad l).2 * 65536 + (ad l).1

/-- One bit of CRC-32. -/
def crcBit (s : Nat) : Nat := if s % 2 = 1 then s / 2 ^^^ 3988292384 else s / 2
def crcByte (s : Nat) : Nat := crcBit (crcBit (crcBit (crcBit (crcBit (crcBit (crcBit (crcBit s)))))))
def tab : List Nat := [0, 498536548, 997073096, 651767980, 1994146192, 1802195444, 1303535960, 1342533948, 3988292384, 4027552580, 3604390888, 3412177804, 2607071920, 2262029012, 2685067896, 3183342108]
def crcFour (s : Nat) : Nat := s / 16 ^^^ tab.getD (s % 16) 0

theorem crcBit_xor (a b : Nat) : crcBit (a ^^^ b) = crcBit a ^^^ crcBit b := by
  unfold crcBit
  have hd : (a ^^^ b) / 2 = a / 2 ^^^ b / 2 := Nat.xor_div_two
  have hm : (a ^^^ b) % 2 = 1 ↔ ¬ (a % 2 = 1 ↔ b % 2 = 1) := Nat.xor_mod_two_eq_one
  by_cases ha : a % 2 = 1 <;> by_cases hb : b % 2 = 1 <;> simp only [hm, hd, ha, hb] <;> simp only [not_true_eq_false, if_true, if_false, iff_false, iff_true, not_false_eq_true]
  · rw [Nat.xor_assoc, Nat.xor_comm 3988292384 (b / 2 ^^^ 3988292384), Nat.xor_assoc, Nat.xor_self, Nat.xor_zero]
  · rw [Nat.xor_assoc, Nat.xor_comm (b / 2) 3988292384, ← Nat.xor_assoc]
  · rw [Nat.xor_assoc]
theorem crcBit_two (m : Nat) : crcBit (2 * m) = m := by unfold crcBit; rw [if_neg (by omega)]; omega
theorem crcBit_lt (s : Nat) (h : s < 4294967296) : crcBit s < 4294967296 := by
  unfold crcBit
  split
  · exact Nat.xor_lt_two_pow (n := 32) (by omega) (by omega)
  · omega
theorem add_xor (h l : Nat) (hl : l < 16) : 16 * h + l = 16 * h ^^^ l := by
  apply Nat.eq_of_testBit_eq
  intro j
  rw [Nat.testBit_xor, show 16 = 2 ^ 4 from rfl, Nat.testBit_two_pow_mul_add _ (by simpa using hl), Nat.testBit_two_pow_mul]
  by_cases hj : j < 4
  · simp [hj, show ¬ 4 ≤ j from by omega]
  · have : l.testBit j = false := Nat.testBit_lt_two_pow (Nat.lt_of_lt_of_le hl (show 2 ^ 4 ≤ 2 ^ j from Nat.pow_le_pow_right (by omega) (by omega)))
    simp [hj, this]; omega
theorem four_low : ∀ l, l < 16 → crcBit (crcBit (crcBit (crcBit l))) = tab.getD l 0 := by decide +kernel
theorem crcFour_eq (s : Nat) : crcBit (crcBit (crcBit (crcBit s))) = crcFour s := by
  have e : s = 16 * (s / 16) ^^^ s % 16 := by rw [← add_xor _ _ (by omega)]; omega
  have e2 : crcBit (crcBit (crcBit (crcBit (16 * (s / 16))))) = s / 16 := by
    rw [show 16 * (s / 16) = 2 * (2 * (2 * (2 * (s / 16)))) from by omega]; simp only [crcBit_two]
  conv => lhs; rw [e]
  simp only [crcBit_xor]
  rw [e2, four_low _ (by omega)]; rfl
theorem crcByte_eq (s : Nat) : crcByte s = crcFour (crcFour s) := by rw [← crcFour_eq, ← crcFour_eq]; rfl
theorem crcByte_lt (s : Nat) (h : s < 4294967296) : crcByte s < 4294967296 := by
  unfold crcByte; repeat (first | exact h | apply crcBit_lt)

/-- CRC-32's number, ahead of the last turning about; bytes as numbers. -/
def crcStep (s : Nat) (x : Int) : Nat := crcByte (s ^^^ x.toNat)
def crc (l : List Int) : Nat := l.foldl crcStep 4294967295
theorem crc_snoc (l : List Int) (x : Int) : crc (l ++ [x]) = crcByte (crc l ^^^ x.toNat) := by simp [crc, crcStep]
theorem crc_lt (l : List Int) (h : ∀ x ∈ l, 0 ≤ x ∧ x ≤ 255) : crc l < 4294967296 := by
  have key : ∀ (l : List Int) (s : Nat), s < 4294967296 → (∀ x ∈ l, 0 ≤ x ∧ x ≤ 255) → l.foldl crcStep s < 4294967296 := by
    intro l
    induction l with
    | nil => intro s hs _; exact hs
    | cons x l ih =>
      intro s hs hx
      have := hx x (by simp)
      exact ih _ (crcByte_lt _ (Nat.xor_lt_two_pow (n := 32) hs (by omega))) fun y hy => hx y (by simp [hy])
  exact key l _ (by omega) h
end Go.Proofs.YtbiibhpknflagaaDoor.Plain
