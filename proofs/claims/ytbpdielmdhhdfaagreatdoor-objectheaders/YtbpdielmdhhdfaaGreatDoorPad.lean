/- The whole sum: plain. -/
import Derived.Test.YtbpdielmdhhdfaaGreatDoorWithA
namespace Go.Proofs.YtbpdielmdhhdfaaGreatDoor
open Go.RowKit
set_option linter.unusedVariables false

def init5 : S5 := ⟨1732584193, 4023233417, 2562383102, 271733878, 3285377520⟩
theorem init_ok : init5.ok := by refine ⟨⟨?_, ?_⟩, ⟨?_, ?_⟩, ⟨?_, ?_⟩, ⟨?_, ?_⟩, ?_, ?_⟩ <;> decide
/-- The sum of k blocks. -/
def ab (l : List Int) : Nat → S5
  | 0 => init5
  | k + 1 => comp (ab l k) ((l.drop (64 * k)).take 64)
theorem ab_ok (l : List Int) : ∀ k, (ab l k).ok
  | 0 => init_ok
  | k + 1 => comp_ok _ _
theorem ab_app (l m : List Int) : ∀ k, 64 * k ≤ l.length → ab (l ++ m) k = ab l k
  | 0, _ => rfl
  | k + 1, h => by
    rw [ab, ab, ab_app l m k (by omega), List.drop_append_of_le_length (by omega), List.take_append_of_le_length (by rw [List.length_drop]; omega)]
/-- The bytes of a number, eight of them. -/
def be8 (n : Nat) (j : Nat) : Int := ((n / 2 ^ (8 * (7 - j)) % 256 : Nat) : Int)
def pads (n : Nat) : Nat := (64 - (n + 9) % 64) % 64
/-- What stands behind n bytes. -/
def endOf (n : Nat) : List Int := 128 :: List.replicate (pads n) 0 ++ (List.range 8).map (be8 (8 * n))
theorem endOf_len (n : Nat) : (endOf n).length = 9 + pads n := by simp [endOf]; omega
theorem pads_le (n : Nat) : pads n ≤ 63 := by unfold pads; omega
theorem end_mod (n : Nat) : (n + (endOf n).length) % 64 = 0 := by rw [endOf_len]; unfold pads; omega
theorem endOf_isB (n : Nat) : IsB (endOf n) := by
  intro x hx
  simp only [endOf, List.cons_append, List.mem_cons, List.mem_append, List.mem_replicate, List.mem_map] at hx
  rcases hx with rfl | ⟨-, rfl⟩ | ⟨j, -, rfl⟩
  · omega
  · omega
  · unfold be8
    have : 8 * n / 2 ^ (8 * (7 - j)) % 256 < 256 := Nat.mod_lt _ (by omega)
    omega
/-- The sum as bytes. -/
def outAt (s : S5) (j : Nat) : List Int := (List.range 20).map fun i => if i < j then s.l.getD (i / 4) 0 / 2 ^ (24 - 8 * (i % 4)) % 256 else 0
theorem outAt_len (s : S5) (j : Nat) : (outAt s j).length = 20 := by simp [outAt]
theorem outAt_step (s : S5) (j : Nat) (h : j < 20) : outAt s (j + 1) = (outAt s j).set j (s.l.getD (j / 4) 0 / 2 ^ (24 - 8 * (j % 4)) % 256) := by
  apply List.ext_getElem (by simp [outAt])
  intro i h1 h2
  rw [List.getElem_set]
  simp only [outAt, List.getElem_map, List.getElem_range]
  by_cases e : j = i
  · subst e; rw [if_pos (by omega), if_pos rfl]
  · rw [if_neg e]
    by_cases h : i < j
    · rw [if_pos (by omega), if_pos h]
    · rw [if_neg (by omega), if_neg h]
def z20 : List Int := List.replicate 20 0
theorem outAt_zero (s : S5) : outAt s 0 = z20 := rfl
/-- SHA-1. -/
def sha (l : List Int) : List Int := outAt (ab (l ++ endOf l.length) ((l ++ endOf l.length).length / 64)) 20
theorem sha_len (l : List Int) : (sha l).length = 20 := outAt_len _ _
theorem IsB.app {l m : List Int} (h : IsB l) (k : IsB m) : IsB (l ++ m) := fun x hx => (List.mem_append.1 hx).elim (h x) (k x)
theorem IsB.take {l : List Int} (h : IsB l) (n : Nat) : IsB (l.take n) := fun x hx => h x (List.mem_of_mem_take hx)
theorem IsB.drop {l : List Int} (h : IsB l) (n : Nat) : IsB (l.drop n) := fun x hx => h x (List.mem_of_mem_drop hx)
end Go.Proofs.YtbpdielmdhhdfaaGreatDoor
