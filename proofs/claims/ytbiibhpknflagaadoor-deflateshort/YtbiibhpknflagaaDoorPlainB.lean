/- THE PLAIN MATHEMATICS OF BITS: the bytes as one number, its lowest byte first; so many bits from a place on. -/
import Derived.Test.YtbiibhpknflagaaDoorPlainA
import Derived.Laws.BitsAllLaws
import Derived.Laws.Bits128
namespace Go.Proofs.YtbiibhpknflagaaDoor.Plain

def leN : List Int → Nat
  | [] => 0
  | x :: l => x.toNat + 256 * leN l
/-- n bits from bit p on. -/
def getB (zs : List Int) (p n : Nat) : Nat := leN zs / 2 ^ p % 2 ^ n

theorem leN_byte : ∀ (zs : List Int) (i : Nat) (h : i < zs.length), (∀ x ∈ zs, 0 ≤ x ∧ x ≤ 255) → leN zs / 2 ^ (8 * i) % 2 ^ 8 = (zs[i]).toNat
  | x :: l, 0, _, hz => by have := hz x (by simp); simp [leN]; omega
  | x :: l, i + 1, h, hz => by
    have hx := hz x (by simp)
    have ih := leN_byte l i (by simpa using h) (fun y hy => hz y (by simp [hy]))
    rw [show 8 * (i + 1) = 8 + 8 * i from by omega, Nat.pow_add, ← Nat.div_div_eq_div_mul]
    rw [show leN (x :: l) / 2 ^ 8 = leN l from by simp [leN]; omega]
    simpa using ih
theorem getB_byte (zs : List Int) (i : Nat) (h : i < zs.length) (hz : ∀ x ∈ zs, 0 ≤ x ∧ x ≤ 255) : getB zs (8 * i) 8 = (zs[i]).toNat := leN_byte zs i h hz
theorem getB_lt (zs : List Int) (p n : Nat) : getB zs p n < 2 ^ n := Nat.mod_lt _ (Nat.two_pow_pos n)
theorem getB_zero (zs : List Int) (p : Nat) : getB zs p 0 = 0 := by simp [getB, Nat.mod_one]
theorem getB_add (zs : List Int) (p a b : Nat) : getB zs p (a + b) = getB zs p a + 2 ^ a * getB zs (p + a) b := by
  unfold getB
  rw [Nat.pow_add 2 a b, Nat.mod_mul, Nat.pow_add 2 p a, Nat.div_div_eq_div_mul]
theorem getB_mod (zs : List Int) (p a n : Nat) (h : n ≤ a) : getB zs p a % 2 ^ n = getB zs p n := by
  obtain ⟨b, rfl⟩ := Nat.exists_eq_add_of_le h
  rw [getB_add, Nat.add_mul_mod_self_left, Nat.mod_eq_of_lt (getB_lt zs p n)]
theorem getB_div (zs : List Int) (p a n : Nat) (h : n ≤ a) : getB zs p a / 2 ^ n = getB zs (p + n) (a - n) := by
  obtain ⟨b, rfl⟩ := Nat.exists_eq_add_of_le h
  rw [getB_add, Nat.add_mul_div_left _ _ (Nat.two_pow_pos n), Nat.div_eq_of_lt (getB_lt zs p n), Nat.add_sub_cancel_left, Nat.zero_add]

theorem wrap_small (n : Nat) (h : n < 9223372036854775808) : IntKind.i64.wrap (n : Int) = (n : Int) := by
  rw [IntKind.wrap_i64]; omega
theorem i64_and_nat (a b : Nat) (ha : a < 9223372036854775808) (hb : b < 9223372036854775808) : bits .and .i64 (a : Int) (b : Int) = ((a &&& b : Nat) : Int) := by
  have hx : a &&& b < 2 ^ 63 := Nat.and_lt_two_pow _ (by omega)
  show IntKind.i64.wrap ((BitVec.ofInt 64 (a : Int) &&& BitVec.ofInt 64 (b : Int)).toNat : Int) = _
  rw [BitVec.toNat_and, ofInt_u64 a (by omega), ofInt_u64 b (by omega)]
  exact wrap_small _ (by omega)
theorem i64_or_nat (a b : Nat) (ha : a < 9223372036854775808) (hb : b < 9223372036854775808) : bits .or .i64 (a : Int) (b : Int) = ((a ||| b : Nat) : Int) := by
  have hx : a ||| b < 2 ^ 63 := Nat.or_lt_two_pow (by omega) (by omega)
  show IntKind.i64.wrap ((BitVec.ofInt 64 (a : Int) ||| BitVec.ofInt 64 (b : Int)).toNat : Int) = _
  rw [BitVec.toNat_or, ofInt_u64 a (by omega), ofInt_u64 b (by omega)]
  exact wrap_small _ (by omega)
theorem pow_le_16 {n : Nat} (h : n ≤ 16) : 2 ^ n ≤ 65536 := Nat.pow_le_pow_right (n := 2) (by omega) h
theorem pow_le_23 {n : Nat} (h : n ≤ 23) : 2 ^ n ≤ 8388608 := Nat.pow_le_pow_right (n := 2) (by omega) h
/-- 'hold |= byte << held'. -/
theorem or_byte (zs : List Int) (p held nx : Nat) (hz : ∀ x ∈ zs, 0 ≤ x ∧ x ≤ 255) (hn : nx < zs.length) (hp : 8 * nx = p + held) (hh : held ≤ 15) :
    bits .or .i64 ((getB zs p held : Nat) : Int) (IntKind.i64.wrap (zs[nx] * 2 ^ held)) = ((getB zs p (held + 8) : Nat) : Int) := by
  have hx := hz _ (List.getElem_mem hn)
  have hb := getB_byte zs nx hn hz
  have h1 := getB_lt zs p held
  have h2 := pow_le_16 (show held ≤ 16 by omega)
  have hm : (zs[nx]).toNat * 2 ^ held ≤ 255 * 65536 := Nat.mul_le_mul (by omega) h2
  have e : zs[nx] * 2 ^ held = (((zs[nx]).toNat * 2 ^ held : Nat) : Int) := by
    rw [Int.natCast_mul, Int.toNat_of_nonneg hx.1]; simp
  rw [e, wrap_small _ (by omega), i64_or_nat _ _ (by omega) (by omega), Nat.or_comm, nat_join held _ _ (Nat.mul_mod_left _ _) h1, getB_add, ← hp, hb, Nat.add_comm, Nat.mul_comm]
/-- 'hold & (1<<n - 1)'. -/
theorem and_mask (zs : List Int) (p held n : Nat) (hn : n ≤ 16) (hh : held ≤ 23) (hnh : n ≤ held) :
    bits .and .i64 ((getB zs p held : Nat) : Int) (IntKind.i64.wrap (IntKind.i64.wrap (2 ^ n) - 1)) = ((getB zs p n : Nat) : Int) := by
  have h1 := getB_lt zs p held
  have h2 := pow_le_16 hn
  have h3 := pow_le_23 hh
  have h4 : 0 < 2 ^ n := Nat.two_pow_pos n
  have e : (2 ^ n : Int) = ((2 ^ n : Nat) : Int) := by simp
  rw [e, wrap_small _ (by omega), show ((2 ^ n : Nat) : Int) - 1 = ((2 ^ n - 1 : Nat) : Int) from by omega, wrap_small _ (by omega), i64_and_nat _ _ (by omega) (by omega), Nat.and_two_pow_sub_one_eq_mod, getB_mod _ _ _ _ hnh]
theorem shr_n (zs : List Int) (p held n : Nat) (hnh : n ≤ held) : ((getB zs p held : Nat) : Int) / 2 ^ n = ((getB zs (p + n) (held - n) : Nat) : Int) := by
  have e : (2 ^ n : Int) = ((2 ^ n : Nat) : Int) := by simp
  rw [e, ← getB_div _ _ _ _ hnh]; rfl
end Go.Proofs.YtbiibhpknflagaaDoor.Plain
