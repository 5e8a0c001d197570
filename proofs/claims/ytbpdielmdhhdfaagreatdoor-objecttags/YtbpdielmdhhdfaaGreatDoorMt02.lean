import Derived.Test.YtbpdielmdhhdfaaGreatDoorMt01
/- The small functions: turning, mixing. -/
namespace Go.Proofs.YtbpdielmdhhdfaaGreatDoor
open Go.RowKit
set_option linter.unusedVariables false
set_option linter.unusedSimpArgs false

def turn1 (x : Int) : Int := bits .or .u32 (x * 2 % 4294967296) (x / 2147483648)
def turn5 (x : Int) : Int := bits .or .u32 (x * 32 % 4294967296) (x / 134217728)
def turn30 (x : Int) : Int := bits .or .u32 (x * 1073741824 % 4294967296) (x / 4)
def ch (b c d : Int) : Int := bits .or .u32 (bits .and .u32 b c) (bits .and .u32 (bits .xor .u32 4294967295 b) d)
def par (b c d : Int) : Int := bits .xor .u32 (bits .xor .u32 b c) d
def maj (b c d : Int) : Int := bits .or .u32 (bits .or .u32 (bits .and .u32 b c) (bits .and .u32 b d)) (bits .and .u32 c d)
def U (x : Int) : Prop := 0 ≤ x ∧ x < 4294967296
theorem turn1_bd (x : Int) : U (turn1 x) := bits_bd _ _ _ (by simp)
theorem turn5_bd (x : Int) : U (turn5 x) := bits_bd _ _ _ (by simp)
theorem turn30_bd (x : Int) : U (turn30 x) := bits_bd _ _ _ (by simp)
theorem ch_bd (a b c : Int) : U (ch a b c) := bits_bd _ _ _ (by simp)
theorem par_bd (a b c : Int) : U (par a b c) := bits_bd _ _ _ (by simp)
theorem maj_bd (a b c : Int) : U (maj a b c) := bits_bd _ _ _ (by simp)
theorem and31_1 : bits .and .u64 1 31 = 1 := by decide +kernel
theorem and31_5 : bits .and .u64 5 31 = 5 := by decide +kernel
theorem and31_30 : bits .and .u64 30 31 = 30 := by decide +kernel

theorem rot1 (x : Int) (w : World) (hx : U x) : Calls Tryz.prog 148 #[.int .u32 x, .int .i64 1] w fun e w' => e = .returned (.int .u32 (turn1 x)) ∧ w = w' := by
  obtain ⟨hx0, hx1⟩ := hx
  have h1 := and31_1
  go_enter Tryz.func148, Tryz.ntmps148
  go_wp2
  go_ret
  exact ⟨rfl, rfl⟩
theorem rot5 (x : Int) (w : World) (hx : U x) : Calls Tryz.prog 148 #[.int .u32 x, .int .i64 5] w fun e w' => e = .returned (.int .u32 (turn5 x)) ∧ w = w' := by
  obtain ⟨hx0, hx1⟩ := hx
  have h1 := and31_5
  go_enter Tryz.func148, Tryz.ntmps148
  go_wp2
  go_ret
  exact ⟨rfl, rfl⟩
theorem rot30 (x : Int) (w : World) (hx : U x) : Calls Tryz.prog 148 #[.int .u32 x, .int .i64 30] w fun e w' => e = .returned (.int .u32 (turn30 x)) ∧ w = w' := by
  obtain ⟨hx0, hx1⟩ := hx
  have h1 := and31_30
  go_enter Tryz.func148, Tryz.ntmps148
  go_wp2
  go_ret
  exact ⟨rfl, rfl⟩
theorem tn1 (x : Int) (w : World) (hx : U x) : Calls Tryz.prog 121 #[.int .u32 x, .int .i64 1] w fun e w' => e = .returned (.int .u32 (turn1 x)) ∧ ∃ n, w' = w.drewN n := by
  obtain ⟨hx0, hx1⟩ := hx
  go_enter Tryz.func121, Tryz.ntmps121
  go_wp2
  go_quiet (fail)
  go_wp2
  go_ret
  exact ⟨rfl, _, rfl⟩
theorem tn5 (x : Int) (w : World) (hx : U x) : Calls Tryz.prog 121 #[.int .u32 x, .int .i64 5] w fun e w' => e = .returned (.int .u32 (turn5 x)) ∧ ∃ n, w' = w.drewN n := by
  obtain ⟨hx0, hx1⟩ := hx
  go_enter Tryz.func121, Tryz.ntmps121
  go_wp2
  go_quiet (fail)
  go_wp2
  go_ret
  exact ⟨rfl, _, rfl⟩
theorem tn30 (x : Int) (w : World) (hx : U x) : Calls Tryz.prog 121 #[.int .u32 x, .int .i64 30] w fun e w' => e = .returned (.int .u32 (turn30 x)) ∧ ∃ n, w' = w.drewN n := by
  obtain ⟨hx0, hx1⟩ := hx
  go_enter Tryz.func121, Tryz.ntmps121
  go_wp2
  go_quiet (fail)
  go_wp2
  go_ret
  exact ⟨rfl, _, rfl⟩
theorem choice_any (b c d : Int) (w : World) (hb : U b) (hc : U c) (hd : U d) : Calls Tryz.prog 185 #[.int .u32 b, .int .u32 c, .int .u32 d] w fun e w' => e = .returned (.int .u32 (ch b c d)) ∧ w = w' := by
  obtain ⟨hb0, hb1⟩ := hb
  obtain ⟨hc0, hc1⟩ := hc
  obtain ⟨hd0, hd1⟩ := hd
  have hsg : IntKind.u32.signed = false := rfl
  have hmx : IntKind.u32.max = 4294967295 := rfl
  go_enter Tryz.func185, Tryz.ntmps185
  go_wp2
  go_ret
  exact ⟨rfl, rfl⟩
theorem parity_any (b c d : Int) (w : World) (hb : U b) (hc : U c) (hd : U d) : Calls Tryz.prog 186 #[.int .u32 b, .int .u32 c, .int .u32 d] w fun e w' => e = .returned (.int .u32 (par b c d)) ∧ w = w' := by
  obtain ⟨hb0, hb1⟩ := hb
  obtain ⟨hc0, hc1⟩ := hc
  obtain ⟨hd0, hd1⟩ := hd
  go_enter Tryz.func186, Tryz.ntmps186
  go_wp2
  go_ret
  exact ⟨rfl, rfl⟩
theorem majority_any (b c d : Int) (w : World) (hb : U b) (hc : U c) (hd : U d) : Calls Tryz.prog 187 #[.int .u32 b, .int .u32 c, .int .u32 d] w fun e w' => e = .returned (.int .u32 (maj b c d)) ∧ w = w' := by
  obtain ⟨hb0, hb1⟩ := hb
  obtain ⟨hc0, hc1⟩ := hc
  obtain ⟨hd0, hd1⟩ := hd
  go_enter Tryz.func187, Tryz.ntmps187
  go_wp2
  go_ret
  exact ⟨rfl, rfl⟩

theorem or_add (n : Nat) (h l : Int) (h0 : 0 ≤ h) (l0 : 0 ≤ l) (hl : l < 2 ^ n) (hs : h * 2 ^ n + l < 4294967296) : bits .or .u32 (h * 2 ^ n) l = h * 2 ^ n + l := by
  obtain ⟨a, rfl⟩ := Int.eq_ofNat_of_zero_le h0
  obtain ⟨b, rfl⟩ := Int.eq_ofNat_of_zero_le l0
  obtain ⟨q, hq⟩ : ∃ q, q = 2 ^ n := ⟨_, rfl⟩
  have hb : b < 2 ^ n := by exact_mod_cast hl
  have e : 2 ^ n * a + b = 2 ^ n * a ||| b := Nat.two_pow_add_eq_or_of_lt hb a
  have hp : ((a : Int) * 2 ^ n) = ((2 ^ n * a : Nat) : Int) := by push_cast; rw [Int.mul_comm]
  rw [hp] at hs ⊢
  rw [u32_or_nat _ _ (by omega) (by omega), ← e]
  push_cast; rfl
/-- Four bytes, the highest first. -/
def num4 (a b c d : Int) : Int := a * 16777216 + b * 65536 + c * 256 + d
theorem num4_or (a b c d : Int) (ha : 0 ≤ a ∧ a < 256) (hb : 0 ≤ b ∧ b < 256) (hc : 0 ≤ c ∧ c < 256) (hd : 0 ≤ d ∧ d < 256) : bits .or .u32 (bits .or .u32 (bits .or .u32 (a * 16777216) (b * 65536)) (c * 256)) d = num4 a b c d := by
  have h1 := or_add 24 a (b * 65536) (by omega) (by omega) (by omega) (by omega)
  have h2 := or_add 16 (a * 256 + b) (c * 256) (by omega) (by omega) (by omega) (by omega)
  have h3 := or_add 8 (a * 65536 + b * 256 + c) d (by omega) (by omega) (by omega) (by omega)
  rw [show (2 : Int) ^ 24 = 16777216 from by decide] at h1
  rw [show (2 : Int) ^ 16 = 65536 from by decide] at h2
  rw [show (2 : Int) ^ 8 = 256 from by decide] at h3
  rw [h1, show a * 16777216 + b * 65536 = (a * 256 + b) * 65536 from by omega, h2, show (a * 256 + b) * 65536 + c * 256 = (a * 65536 + b * 256 + c) * 256 from by omega, h3]
  unfold num4; omega
theorem or8 (v x : Int) (hv : 0 ≤ v ∧ v < 16777216) (hx : 0 ≤ x ∧ x < 256) : bits .or .u32 (v * 256 % 4294967296) x = v * 256 + x := by
  rw [show v * 256 % 4294967296 = v * 2 ^ 8 from by omega, or_add 8 v x hv.1 hx.1 (by omega) (by omega)]; rfl
/-- Where bytes lie. -/
def At (w : World) (b off : Nat) (zs : List Int) : Prop := ∀ i, i < zs.length → w.cell? ⟨b, off + i, none⟩ = some (.int .u8 (zs.getD i 0))
theorem number_any (b off cap i : Nat) (zs : List Int) (w : World) (hl : zs.length = 64) (hz : IsB zs) (hi : i < 16) (hat : At w b off zs) :
    Calls Tryz.prog 120 #[.slice (some ⟨b, off, none⟩) 64 cap, .int .i64 (4 * i)] w fun e w' => e = .returned (.int .u32 (num4 (zs.getD (4 * i) 0) (zs.getD (4 * i + 1) 0) (zs.getD (4 * i + 2) 0) (zs.getD (4 * i + 3) 0))) ∧ ∃ n, w' = w.drewN n := by
  obtain ⟨x0, H0⟩ : ∃ x, Hid (x = zs.getD (4 * i) 0) := ⟨_, rfl⟩
  obtain ⟨x1, H1⟩ : ∃ x, Hid (x = zs.getD (4 * i + 1) 0) := ⟨_, rfl⟩
  obtain ⟨x2, H2⟩ : ∃ x, Hid (x = zs.getD (4 * i + 2) 0) := ⟨_, rfl⟩
  obtain ⟨x3, H3⟩ : ∃ x, Hid (x = zs.getD (4 * i + 3) 0) := ⟨_, rfl⟩
  have c0 : w.cell? ⟨b, off + 4 * i, none⟩ = some (.int .u8 x0) := by rw [H0.out]; exact hat _ (by omega)
  have c1 : w.cell? ⟨b, off + (4 * i + 1), none⟩ = some (.int .u8 x1) := by rw [H1.out]; exact hat _ (by omega)
  have c2 : w.cell? ⟨b, off + (4 * i + 2), none⟩ = some (.int .u8 x2) := by rw [H2.out]; exact hat _ (by omega)
  have c3 : w.cell? ⟨b, off + (4 * i + 3), none⟩ = some (.int .u8 x3) := by rw [H3.out]; exact hat _ (by omega)
  have b0 : 0 ≤ x0 ∧ x0 < 256 := by rw [H0.out]; exact hz.at _
  have b1 : 0 ≤ x1 ∧ x1 < 256 := by rw [H1.out]; exact hz.at _
  have b2 : 0 ≤ x2 ∧ x2 < 256 := by rw [H2.out]; exact hz.at _
  have b3 : 0 ≤ x3 ∧ x3 < 256 := by rw [H3.out]; exact hz.at _
  rw [← H0.out, ← H1.out, ← H2.out, ← H3.out]
  obtain ⟨j, HJ⟩ : ∃ j, Hid (j = 4 * i) := ⟨_, rfl⟩
  rw [show (4 * (i : Int)) = (j : Int) from by have := HJ.out; omega]
  rw [← HJ.out] at c0 c1 c2 c3
  have hj : j ≤ 60 := by have := HJ.out; omega
  go_enter Tryz.func120, Tryz.ntmps120
  go_wp2
  go_quiet (fail)
  go_wp2
  go_ret
  rw [← num4_or x0 x1 x2 x3 b0 b1 b2 b3]
  exact ⟨rfl, _, rfl⟩
end Go.Proofs.YtbpdielmdhhdfaaGreatDoor
/- The words of a block: plain. -/
namespace Go.Proofs.YtbpdielmdhhdfaaGreatDoor
open Go.RowKit
set_option linter.unusedVariables false

/-- The first m bytes of word j. -/
def val (zs : List Int) (j : Nat) : Nat → Int
  | 0 => 0
  | m + 1 => val zs j m * 256 + zs.getD (4 * j + m) 0
theorem val_bd (zs : List Int) (hz : IsB zs) (j : Nat) : ∀ m, 0 ≤ val zs j m ∧ val zs j m < 256 ^ m
  | 0 => by simp [val]
  | m + 1 => by
    have h := val_bd zs hz j m
    have hb := hz.at (4 * j + m)
    simp only [val, Int.pow_succ]
    generalize (256 : Int) ^ m = q at h ⊢
    omega
theorem val4 (zs : List Int) (j : Nat) : val zs j 4 = num4 (zs.getD (4 * j) 0) (zs.getD (4 * j + 1) 0) (zs.getD (4 * j + 2) 0) (zs.getD (4 * j + 3) 0) := by
  simp only [val, num4, Nat.add_zero]; omega
/-- The words behind k bytes. -/
def wAt (zs : List Int) (k : Nat) : List Int := (List.range 80).map fun j => val zs j (min (k - 4 * j) 4)
theorem wAt_len (zs : List Int) (k : Nat) : (wAt zs k).length = 80 := by simp [wAt]
theorem wAt_get (zs : List Int) (k j : Nat) (h : j < 80) : (wAt zs k).getD j 0 = val zs j (min (k - 4 * j) 4) := by simp [wAt, h]
theorem wAt_zero (zs : List Int) : wAt zs 0 = List.replicate 80 0 := by
  apply List.ext_getElem (by rw [wAt_len, List.length_replicate])
  intro j h1 h2
  rw [List.getElem_replicate]
  simp only [wAt, List.getElem_map, List.getElem_range]
  rw [show min (0 - 4 * j) 4 = 0 from by omega]; rfl
theorem wAt_step (zs : List Int) (k : Nat) (h : k < 64) : wAt zs (k + 1) = (wAt zs k).set (k / 4) ((wAt zs k).getD (k / 4) 0 * 256 + zs.getD k 0) := by
  rw [wAt_get zs k (k / 4) (by omega)]
  apply List.ext_getElem (by simp [wAt])
  intro j h1 h2
  have hj : j < 80 := by rw [wAt_len] at h1; exact h1
  rw [List.getElem_set]
  by_cases e : k / 4 = j
  · rw [if_pos e]
    subst e
    simp only [wAt, List.getElem_map, List.getElem_range]
    rw [show min (k + 1 - 4 * (k / 4)) 4 = min (k - 4 * (k / 4)) 4 + 1 from by omega, val, show 4 * (k / 4) + min (k - 4 * (k / 4)) 4 = k from by omega]
  · rw [if_neg e]
    simp only [wAt, List.getElem_map, List.getElem_range]
    rw [show min (k + 1 - 4 * j) 4 = min (k - 4 * j) 4 from by omega]
theorem wAt_small (zs : List Int) (hz : IsB zs) (k : Nat) (h : k < 64) : 0 ≤ (wAt zs k).getD (k / 4) 0 ∧ (wAt zs k).getD (k / 4) 0 < 16777216 := by
  rw [wAt_get zs k _ (by omega)]
  have hb := val_bd zs hz (k / 4) (min (k - 4 * (k / 4)) 4)
  have h3 : min (k - 4 * (k / 4)) 4 ≤ 3 := by omega
  refine ⟨hb.1, Int.lt_of_lt_of_le hb.2 ?_⟩
  generalize min (k - 4 * (k / 4)) 4 = m at h3
  match m, h3 with
  | 0, _ => decide
  | 1, _ => decide
  | 2, _ => decide
  | 3, _ => decide
theorem wAt_isW (zs : List Int) (hz : IsB zs) (k : Nat) : IsW (wAt zs k) := by
  intro x hx
  simp only [wAt, List.mem_map, List.mem_range] at hx
  obtain ⟨j, -, rfl⟩ := hx
  have hb := val_bd zs hz j (min (k - 4 * j) 4)
  have h3 : min (k - 4 * j) 4 ≤ 4 := by omega
  refine ⟨hb.1, Int.lt_of_lt_of_le hb.2 ?_⟩
  generalize min (k - 4 * j) 4 = m at h3
  match m, h3 with
  | 0, _ => decide
  | 1, _ => decide
  | 2, _ => decide
  | 3, _ => decide
  | 4, _ => decide
/-- As the document makes them: i words. -/
def rAt (zs : List Int) (i : Nat) : List Int := (List.range 80).map fun j => if j < i then val zs j 4 else 0
theorem rAt_len (zs : List Int) (k : Nat) : (rAt zs k).length = 80 := by simp [rAt]
theorem rAt_zero (zs : List Int) : rAt zs 0 = List.replicate 80 0 := by
  apply List.ext_getElem (by rw [rAt_len, List.length_replicate])
  intro j h1 h2
  rw [List.getElem_replicate]
  simp only [rAt, List.getElem_map, List.getElem_range]
  rw [if_neg (by omega)]
theorem rAt_step (zs : List Int) (i : Nat) (h : i < 16) : rAt zs (i + 1) = (rAt zs i).set i (val zs i 4) := by
  apply List.ext_getElem (by simp [rAt])
  intro j h1 h2
  rw [List.getElem_set]
  simp only [rAt, List.getElem_map, List.getElem_range]
  by_cases e : i = j
  · subst e; rw [if_pos rfl, if_pos (by omega)]
  · rw [if_neg e]
    by_cases h : j < i
    · rw [if_pos (by omega), if_pos h]
    · rw [if_neg (by omega), if_neg h]
theorem rAt_16 (zs : List Int) : rAt zs 16 = wAt zs 64 := by
  apply List.ext_getElem (by simp [rAt, wAt])
  intro j h1 h2
  simp only [rAt, wAt, List.getElem_map, List.getElem_range]
  by_cases h : j < 16
  · rw [if_pos h, show min (64 - 4 * j) 4 = 4 from by omega]
  · rw [if_neg h, show min (64 - 4 * j) 4 = 0 from by omega]; rfl

/-- The next word. -/
def nx (v : List Int) (i : Nat) : Int := bits .xor .u32 (bits .xor .u32 (bits .xor .u32 (v.getD (i - 3) 0) (v.getD (i - 8) 0)) (v.getD (i - 14) 0)) (v.getD (i - 16) 0)
def spAt (ws : List Int) : Nat → List Int
  | 0 => ws
  | j + 1 => (spAt ws j).set (16 + j) (turn1 (nx (spAt ws j) (16 + j)))
theorem spAt_len (ws : List Int) : ∀ j, (spAt ws j).length = ws.length
  | 0 => rfl
  | j + 1 => by rw [spAt, List.length_set, spAt_len ws j]
theorem spAt_isW (ws : List Int) (h : IsW ws) : ∀ j, IsW (spAt ws j)
  | 0 => h
  | j + 1 => (spAt_isW ws h j).set _ _ (turn1_bd _)
theorem nx_bd (v : List Int) (i : Nat) : U (nx v i) := bits_bd _ _ _ (by simp)
def spread (zs : List Int) : List Int := spAt (wAt zs 64) 64
theorem spread_len (zs : List Int) : (spread zs).length = 80 := by rw [spread, spAt_len, wAt_len]
theorem spread_isW (zs : List Int) (hz : IsB zs) : IsW (spread zs) := spAt_isW _ (wAt_isW zs hz 64) _
end Go.Proofs.YtbpdielmdhhdfaaGreatDoor
