/- The words of a block: plain. -/
import Derived.Test.YtbpdielmdhhdfaaGreatDoorSmall
namespace Go.Proofs.YtbpdielmdhhdfaaGreatDoor
open Go.RowKit
set_option linter.unusedVariables false

/-- The first m bytes of word j. -/
def val (zs : List Int) (j : Nat) : Nat → Int
  | 0 => 0
  | m + 1 => val zs j m * 256 + zs.getD (4 * j + m) 0
theorem val_bd (zs : List Int) (hz : IsB zs) (j : Nat) : ∀ m, 0 ≤ val zs j m ∧ val zs j m < 256 ^ m
  | 0 => by simp [val]
  | m + 1 => by
    have h := val_bd zs hz j m
    have hb := hz.at (4 * j + m)
    simp only [val, Int.pow_succ]
    generalize (256 : Int) ^ m = q at h ⊢
    omega
theorem val4 (zs : List Int) (j : Nat) : val zs j 4 = num4 (zs.getD (4 * j) 0) (zs.getD (4 * j + 1) 0) (zs.getD (4 * j + 2) 0) (zs.getD (4 * j + 3) 0) := by
  simp only [val, num4, Nat.add_zero]; omega
/-- The words behind k bytes. -/
def wAt (zs : List Int) (k : Nat) : List Int := (List.range 80).map fun j => val zs j (min (k - 4 * j) 4)
theorem wAt_len (zs : List Int) (k : Nat) : (wAt zs k).length = 80 := by simp [wAt]
theorem wAt_get (zs : List Int) (k j : Nat) (h : j < 80) : (wAt zs k).getD j 0 = val zs j (min (k - 4 * j) 4) := by simp [wAt, h]
theorem wAt_zero (zs : List Int) : wAt zs 0 = List.replicate 80 0 := by
  apply List.ext_getElem (by rw [wAt_len, List.length_replicate])
  intro j h1 h2
  rw [List.getElem_replicate]
  simp only [wAt, List.getElem_map, List.getElem_range]
  rw [show min (0 - 4 * j) 4 = 0 from by omega]; rfl
theorem wAt_step (zs : List Int) (k : Nat) (h : k < 64) : wAt zs (k + 1) = (wAt zs k).set (k / 4) ((wAt zs k).getD (k / 4) 0 * 256 + zs.getD k 0) := by
  rw [wAt_get zs k (k / 4) (by omega)]
  apply List.ext_getElem (by simp [wAt])
  intro j h1 h2
  have hj : j < 80 := by rw [wAt_len] at h1; exact h1
  rw [List.getElem_set]
  by_cases e : k / 4 = j
  · rw [if_pos e]
    subst e
    simp only [wAt, List.getElem_map, List.getElem_range]
    rw [show min (k + 1 - 4 * (k / 4)) 4 = min (k - 4 * (k / 4)) 4 + 1 from by omega, val, show 4 * (k / 4) + min (k - 4 * (k / 4)) 4 = k from by omega]
  · rw [if_neg e]
    simp only [wAt, List.getElem_map, List.getElem_range]
    rw [show min (k + 1 - 4 * j) 4 = min (k - 4 * j) 4 from by omega]
theorem wAt_small (zs : List Int) (hz : IsB zs) (k : Nat) (h : k < 64) : 0 ≤ (wAt zs k).getD (k / 4) 0 ∧ (wAt zs k).getD (k / 4) 0 < 16777216 := by
  rw [wAt_get zs k _ (by omega)]
  have hb := val_bd zs hz (k / 4) (min (k - 4 * (k / 4)) 4)
  have h3 : min (k - 4 * (k / 4)) 4 ≤ 3 := by omega
  refine ⟨hb.1, Int.lt_of_lt_of_le hb.2 ?_⟩
  generalize min (k - 4 * (k / 4)) 4 = m at h3
  match m, h3 with
  | 0, _ => decide
  | 1, _ => decide
  | 2, _ => decide
  | 3, _ => decide
theorem wAt_isW (zs : List Int) (hz : IsB zs) (k : Nat) : IsW (wAt zs k) := by
  intro x hx
  simp only [wAt, List.mem_map, List.mem_range] at hx
  obtain ⟨j, -, rfl⟩ := hx
  have hb := val_bd zs hz j (min (k - 4 * j) 4)
  have h3 : min (k - 4 * j) 4 ≤ 4 := by omega
  refine ⟨hb.1, Int.lt_of_lt_of_le hb.2 ?_⟩
  generalize min (k - 4 * j) 4 = m at h3
  match m, h3 with
  | 0, _ => decide
  | 1, _ => decide
  | 2, _ => decide
  | 3, _ => decide
  | 4, _ => decide
/-- As the document makes them: i words. -/
def rAt (zs : List Int) (i : Nat) : List Int := (List.range 80).map fun j => if j < i then val zs j 4 else 0
theorem rAt_len (zs : List Int) (k : Nat) : (rAt zs k).length = 80 := by simp [rAt]
theorem rAt_zero (zs : List Int) : rAt zs 0 = List.replicate 80 0 := by
  apply List.ext_getElem (by rw [rAt_len, List.length_replicate])
  intro j h1 h2
  rw [List.getElem_replicate]
  simp only [rAt, List.getElem_map, List.getElem_range]
  rw [if_neg (by omega)]
theorem rAt_step (zs : List Int) (i : Nat) (h : i < 16) : rAt zs (i + 1) = (rAt zs i).set i (val zs i 4) := by
  apply List.ext_getElem (by simp [rAt])
  intro j h1 h2
  rw [List.getElem_set]
  simp only [rAt, List.getElem_map, List.getElem_range]
  by_cases e : i = j
  · subst e; rw [if_pos rfl, if_pos (by omega)]
  · rw [if_neg e]
    by_cases h : j < i
    · rw [if_pos (by omega), if_pos h]
    · rw [if_neg (by omega), if_neg h]
theorem rAt_16 (zs : List Int) : rAt zs 16 = wAt zs 64 := by
  apply List.ext_getElem (by simp [rAt, wAt])
  intro j h1 h2
  simp only [rAt, wAt, List.getElem_map, List.getElem_range]
  by_cases h : j < 16
  · rw [if_pos h, show min (64 - 4 * j) 4 = 4 from by omega]
  · rw [if_neg h, show min (64 - 4 * j) 4 = 0 from by omega]; rfl

/-- The next word. -/
def nx (v : List Int) (i : Nat) : Int := bits .xor .u32 (bits .xor .u32 (bits .xor .u32 (v.getD (i - 3) 0) (v.getD (i - 8) 0)) (v.getD (i - 14) 0)) (v.getD (i - 16) 0)
def spAt (ws : List Int) : Nat → List Int
  | 0 => ws
  | j + 1 => (spAt ws j).set (16 + j) (turn1 (nx (spAt ws j) (16 + j)))
theorem spAt_len (ws : List Int) : ∀ j, (spAt ws j).length = ws.length
  | 0 => rfl
  | j + 1 => by rw [spAt, List.length_set, spAt_len ws j]
theorem spAt_isW (ws : List Int) (h : IsW ws) : ∀ j, IsW (spAt ws j)
  | 0 => h
  | j + 1 => (spAt_isW ws h j).set _ _ (turn1_bd _)
theorem nx_bd (v : List Int) (i : Nat) : U (nx v i) := bits_bd _ _ _ (by simp)
def spread (zs : List Int) : List Int := spAt (wAt zs 64) 64
theorem spread_len (zs : List Int) : (spread zs).length = 80 := by rw [spread, spAt_len, wAt_len]
theorem spread_isW (zs : List Int) (hz : IsB zs) : IsW (spread zs) := spAt_isW _ (wAt_isW zs hz 64) _
end Go.Proofs.YtbpdielmdhhdfaaGreatDoor
