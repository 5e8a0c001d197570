/- THE PLAIN MATHEMATICS OF A CODE, AS THE PROGRAM READS IT: counts of the lengths, symbols in order. -/
import Derived.Test.YtbiibhpknflagaaDoorPlainB
namespace Go.Proofs.YtbiibhpknflagaaDoor.Plain

/-- One symbol, from length n on: the bits so far, the first code of the length ahead and its count, how many symbols are passed. -/
def decGo (cnt srt : List Nat) (zs : List Int) : Nat → Nat → Nat → Nat → Nat → Nat → Option (Nat × Nat)
  | 0, _, _, _, _, _ => none
  | f + 1, n, b, first, passed, p =>
    if 8 * zs.length < p + 1 then none
    else if 2 * b + getB zs p 1 - 2 * first < cnt.getD n 0 then some (srt.getD (passed + (2 * b + getB zs p 1 - 2 * first)) 0, p + 1)
    else decGo cnt srt zs f (n + 1) (2 * b + getB zs p 1) (2 * first + cnt.getD n 0) (passed + cnt.getD n 0) (p + 1)
def dec (cnt srt : List Nat) (zs : List Int) (p : Nat) : Option (Nat × Nat) := decGo cnt srt zs 15 1 0 0 0 p

theorem decGo_lt (cnt srt : List Nat) (zs : List Int) : ∀ (f n b first passed p y p' : Nat), decGo cnt srt zs f n b first passed p = some (y, p') → p < p' ∧ p' ≤ 8 * zs.length
  | 0, _, _, _, _, _, _, _, h => by simp [decGo] at h
  | f + 1, n, b, first, passed, p, y, p', h => by
    rw [decGo] at h
    split at h
    · simp at h
    · split at h
      · simp at h; omega
      · have := decGo_lt cnt srt zs f _ _ _ _ _ _ _ h; omega
theorem dec_lt {cnt srt : List Nat} {zs : List Int} {p y p' : Nat} (h : dec cnt srt zs p = some (y, p')) : p < p' ∧ p' ≤ 8 * zs.length := decGo_lt _ _ _ _ _ _ _ _ _ _ _ h

/-- How many symbols have fewer than n bits (1 at least). -/
def below (cnt : List Nat) : Nat → Nat
  | 0 => 0
  | n + 1 => if n = 0 then 0 else below cnt n + cnt.getD n 0
theorem below_succ (cnt : List Nat) (n : Nat) (h : 1 ≤ n) : below cnt (n + 1) = below cnt n + cnt.getD n 0 := by rw [below, if_neg (by omega)]
theorem below_one (cnt : List Nat) : below cnt 1 = 0 := rfl
theorem below_mono (cnt : List Nat) : ∀ (a b : Nat), a ≤ b → below cnt a ≤ below cnt b
  | a, 0, h => by rw [show a = 0 from by omega]; exact Nat.le_refl _
  | a, b + 1, h => by
    by_cases e : a = b + 1
    · rw [e]; exact Nat.le_refl _
    · have := below_mono cnt a b (by omega)
      by_cases hb : b = 0
      · subst hb; rw [show a = 0 from by omega]; simp [below]
      · rw [below_succ cnt b (by omega)]; omega
end Go.Proofs.YtbiibhpknflagaaDoor.Plain
