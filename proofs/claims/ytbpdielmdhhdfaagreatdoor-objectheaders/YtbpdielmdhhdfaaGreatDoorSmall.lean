/- The small functions: turning, mixing. -/
import Derived.Test.YtbpdielmdhhdfaaGreatDoorBase
namespace Go.Proofs.YtbpdielmdhhdfaaGreatDoor
open Go.RowKit
set_option linter.unusedVariables false
set_option linter.unusedSimpArgs false

def turn1 (x : Int) : Int := bits .or .u32 (x * 2 % 4294967296) (x / 2147483648)
def turn5 (x : Int) : Int := bits .or .u32 (x * 32 % 4294967296) (x / 134217728)
def turn30 (x : Int) : Int := bits .or .u32 (x * 1073741824 % 4294967296) (x / 4)
def ch (b c d : Int) : Int := bits .or .u32 (bits .and .u32 b c) (bits .and .u32 (bits .xor .u32 4294967295 b) d)
def par (b c d : Int) : Int := bits .xor .u32 (bits .xor .u32 b c) d
def maj (b c d : Int) : Int := bits .or .u32 (bits .or .u32 (bits .and .u32 b c) (bits .and .u32 b d)) (bits .and .u32 c d)
def U (x : Int) : Prop := 0 ≤ x ∧ x < 4294967296
theorem turn1_bd (x : Int) : U (turn1 x) := bits_bd _ _ _ (by simp)
theorem turn5_bd (x : Int) : U (turn5 x) := bits_bd _ _ _ (by simp)
theorem turn30_bd (x : Int) : U (turn30 x) := bits_bd _ _ _ (by simp)
theorem ch_bd (a b c : Int) : U (ch a b c) := bits_bd _ _ _ (by simp)
theorem par_bd (a b c : Int) : U (par a b c) := bits_bd _ _ _ (by simp)
theorem maj_bd (a b c : Int) : U (maj a b c) := bits_bd _ _ _ (by simp)
theorem and31_1 : bits .and .u64 1 31 = 1 := by decide +kernel
theorem and31_5 : bits .and .u64 5 31 = 5 := by decide +kernel
theorem and31_30 : bits .and .u64 30 31 = 30 := by decide +kernel

theorem rot1 (x : Int) (w : World) (hx : U x) : Calls Tryz.prog 148 #[.int .u32 x, .int .i64 1] w fun e w' => e = .returned (.int .u32 (turn1 x)) ∧ w = w' := by
  obtain ⟨hx0, hx1⟩ := hx
  have h1 := and31_1
  go_enter Tryz.func148, Tryz.ntmps148
  go_wp2
  go_ret
  exact ⟨rfl, rfl⟩
theorem rot5 (x : Int) (w : World) (hx : U x) : Calls Tryz.prog 148 #[.int .u32 x, .int .i64 5] w fun e w' => e = .returned (.int .u32 (turn5 x)) ∧ w = w' := by
  obtain ⟨hx0, hx1⟩ := hx
  have h1 := and31_5
  go_enter Tryz.func148, Tryz.ntmps148
  go_wp2
  go_ret
  exact ⟨rfl, rfl⟩
theorem rot30 (x : Int) (w : World) (hx : U x) : Calls Tryz.prog 148 #[.int .u32 x, .int .i64 30] w fun e w' => e = .returned (.int .u32 (turn30 x)) ∧ w = w' := by
  obtain ⟨hx0, hx1⟩ := hx
  have h1 := and31_30
  go_enter Tryz.func148, Tryz.ntmps148
  go_wp2
  go_ret
  exact ⟨rfl, rfl⟩
theorem tn1 (x : Int) (w : World) (hx : U x) : Calls Tryz.prog 121 #[.int .u32 x, .int .i64 1] w fun e w' => e = .returned (.int .u32 (turn1 x)) ∧ ∃ n, w' = w.drewN n := by
  obtain ⟨hx0, hx1⟩ := hx
  go_enter Tryz.func121, Tryz.ntmps121
  go_wp2
  go_quiet (fail)
  go_wp2
  go_ret
  exact ⟨rfl, _, rfl⟩
theorem tn5 (x : Int) (w : World) (hx : U x) : Calls Tryz.prog 121 #[.int .u32 x, .int .i64 5] w fun e w' => e = .returned (.int .u32 (turn5 x)) ∧ ∃ n, w' = w.drewN n := by
  obtain ⟨hx0, hx1⟩ := hx
  go_enter Tryz.func121, Tryz.ntmps121
  go_wp2
  go_quiet (fail)
  go_wp2
  go_ret
  exact ⟨rfl, _, rfl⟩
theorem tn30 (x : Int) (w : World) (hx : U x) : Calls Tryz.prog 121 #[.int .u32 x, .int .i64 30] w fun e w' => e = .returned (.int .u32 (turn30 x)) ∧ ∃ n, w' = w.drewN n := by
  obtain ⟨hx0, hx1⟩ := hx
  go_enter Tryz.func121, Tryz.ntmps121
  go_wp2
  go_quiet (fail)
  go_wp2
  go_ret
  exact ⟨rfl, _, rfl⟩
theorem choice_any (b c d : Int) (w : World) (hb : U b) (hc : U c) (hd : U d) : Calls Tryz.prog 185 #[.int .u32 b, .int .u32 c, .int .u32 d] w fun e w' => e = .returned (.int .u32 (ch b c d)) ∧ w = w' := by
  obtain ⟨hb0, hb1⟩ := hb
  obtain ⟨hc0, hc1⟩ := hc
  obtain ⟨hd0, hd1⟩ := hd
  have hsg : IntKind.u32.signed = false := rfl
  have hmx : IntKind.u32.max = 4294967295 := rfl
  go_enter Tryz.func185, Tryz.ntmps185
  go_wp2
  go_ret
  exact ⟨rfl, rfl⟩
theorem parity_any (b c d : Int) (w : World) (hb : U b) (hc : U c) (hd : U d) : Calls Tryz.prog 186 #[.int .u32 b, .int .u32 c, .int .u32 d] w fun e w' => e = .returned (.int .u32 (par b c d)) ∧ w = w' := by
  obtain ⟨hb0, hb1⟩ := hb
  obtain ⟨hc0, hc1⟩ := hc
  obtain ⟨hd0, hd1⟩ := hd
  go_enter Tryz.func186, Tryz.ntmps186
  go_wp2
  go_ret
  exact ⟨rfl, rfl⟩
theorem majority_any (b c d : Int) (w : World) (hb : U b) (hc : U c) (hd : U d) : Calls Tryz.prog 187 #[.int .u32 b, .int .u32 c, .int .u32 d] w fun e w' => e = .returned (.int .u32 (maj b c d)) ∧ w = w' := by
  obtain ⟨hb0, hb1⟩ := hb
  obtain ⟨hc0, hc1⟩ := hc
  obtain ⟨hd0, hd1⟩ := hd
  go_enter Tryz.func187, Tryz.ntmps187
  go_wp2
  go_ret
  exact ⟨rfl, rfl⟩

theorem or_add (n : Nat) (h l : Int) (h0 : 0 ≤ h) (l0 : 0 ≤ l) (hl : l < 2 ^ n) (hs : h * 2 ^ n + l < 4294967296) : bits .or .u32 (h * 2 ^ n) l = h * 2 ^ n + l := by
  obtain ⟨a, rfl⟩ := Int.eq_ofNat_of_zero_le h0
  obtain ⟨b, rfl⟩ := Int.eq_ofNat_of_zero_le l0
  obtain ⟨q, hq⟩ : ∃ q, q = 2 ^ n := ⟨_, rfl⟩
  have hb : b < 2 ^ n := by exact_mod_cast hl
  have e : 2 ^ n * a + b = 2 ^ n * a ||| b := Nat.two_pow_add_eq_or_of_lt hb a
  have hp : ((a : Int) * 2 ^ n) = ((2 ^ n * a : Nat) : Int) := by push_cast; rw [Int.mul_comm]
  rw [hp] at hs ⊢
  rw [u32_or_nat _ _ (by omega) (by omega), ← e]
  push_cast; rfl
/-- Four bytes, the highest first. -/
def num4 (a b c d : Int) : Int := a * 16777216 + b * 65536 + c * 256 + d
theorem num4_or (a b c d : Int) (ha : 0 ≤ a ∧ a < 256) (hb : 0 ≤ b ∧ b < 256) (hc : 0 ≤ c ∧ c < 256) (hd : 0 ≤ d ∧ d < 256) : bits .or .u32 (bits .or .u32 (bits .or .u32 (a * 16777216) (b * 65536)) (c * 256)) d = num4 a b c d := by
  have h1 := or_add 24 a (b * 65536) (by omega) (by omega) (by omega) (by omega)
  have h2 := or_add 16 (a * 256 + b) (c * 256) (by omega) (by omega) (by omega) (by omega)
  have h3 := or_add 8 (a * 65536 + b * 256 + c) d (by omega) (by omega) (by omega) (by omega)
  rw [show (2 : Int) ^ 24 = 16777216 from by decide] at h1
  rw [show (2 : Int) ^ 16 = 65536 from by decide] at h2
  rw [show (2 : Int) ^ 8 = 256 from by decide] at h3
  rw [h1, show a * 16777216 + b * 65536 = (a * 256 + b) * 65536 from by omega, h2, show (a * 256 + b) * 65536 + c * 256 = (a * 65536 + b * 256 + c) * 256 from by omega, h3]
  unfold num4; omega
theorem or8 (v x : Int) (hv : 0 ≤ v ∧ v < 16777216) (hx : 0 ≤ x ∧ x < 256) : bits .or .u32 (v * 256 % 4294967296) x = v * 256 + x := by
  rw [show v * 256 % 4294967296 = v * 2 ^ 8 from by omega, or_add 8 v x hv.1 hx.1 (by omega) (by omega)]; rfl
/-- Where bytes lie. -/
def At (w : World) (b off : Nat) (zs : List Int) : Prop := ∀ i, i < zs.length → w.cell? ⟨b, off + i, none⟩ = some (.int .u8 (zs.getD i 0))
theorem number_any (b off cap i : Nat) (zs : List Int) (w : World) (hl : zs.length = 64) (hz : IsB zs) (hi : i < 16) (hat : At w b off zs) :
    Calls Tryz.prog 120 #[.slice (some ⟨b, off, none⟩) 64 cap, .int .i64 (4 * i)] w fun e w' => e = .returned (.int .u32 (num4 (zs.getD (4 * i) 0) (zs.getD (4 * i + 1) 0) (zs.getD (4 * i + 2) 0) (zs.getD (4 * i + 3) 0))) ∧ ∃ n, w' = w.drewN n := by
  obtain ⟨x0, H0⟩ : ∃ x, Hid (x = zs.getD (4 * i) 0) := ⟨_, rfl⟩
  obtain ⟨x1, H1⟩ : ∃ x, Hid (x = zs.getD (4 * i + 1) 0) := ⟨_, rfl⟩
  obtain ⟨x2, H2⟩ : ∃ x, Hid (x = zs.getD (4 * i + 2) 0) := ⟨_, rfl⟩
  obtain ⟨x3, H3⟩ : ∃ x, Hid (x = zs.getD (4 * i + 3) 0) := ⟨_, rfl⟩
  have c0 : w.cell? ⟨b, off + 4 * i, none⟩ = some (.int .u8 x0) := by rw [H0.out]; exact hat _ (by omega)
  have c1 : w.cell? ⟨b, off + (4 * i + 1), none⟩ = some (.int .u8 x1) := by rw [H1.out]; exact hat _ (by omega)
  have c2 : w.cell? ⟨b, off + (4 * i + 2), none⟩ = some (.int .u8 x2) := by rw [H2.out]; exact hat _ (by omega)
  have c3 : w.cell? ⟨b, off + (4 * i + 3), none⟩ = some (.int .u8 x3) := by rw [H3.out]; exact hat _ (by omega)
  have b0 : 0 ≤ x0 ∧ x0 < 256 := by rw [H0.out]; exact hz.at _
  have b1 : 0 ≤ x1 ∧ x1 < 256 := by rw [H1.out]; exact hz.at _
  have b2 : 0 ≤ x2 ∧ x2 < 256 := by rw [H2.out]; exact hz.at _
  have b3 : 0 ≤ x3 ∧ x3 < 256 := by rw [H3.out]; exact hz.at _
  rw [← H0.out, ← H1.out, ← H2.out, ← H3.out]
  obtain ⟨j, HJ⟩ : ∃ j, Hid (j = 4 * i) := ⟨_, rfl⟩
  rw [show (4 * (i : Int)) = (j : Int) from by have := HJ.out; omega]
  rw [← HJ.out] at c0 c1 c2 c3
  have hj : j ≤ 60 := by have := HJ.out; omega
  go_enter Tryz.func120, Tryz.ntmps120
  go_wp2
  go_quiet (fail)
  go_wp2
  go_ret
  rw [← num4_or x0 x1 x2 x3 b0 b1 b2 b3]
  exact ⟨rfl, _, rfl⟩
end Go.Proofs.YtbpdielmdhhdfaaGreatDoor
