/- THE PLAIN MATHEMATICS OF CHAPTER 4: sizes, steps, what a delta makes. -/
import Derived.Test.YtblegkefeiefjaaDoorBase
namespace Go.Proofs.YtblegkefeiefjaaDoor.Plain

/-- 4.1: a size from its i-th byte on, so many bytes more; what is there so far. -/
def szGo : Nat → Nat → Nat → List Int → Option (Nat × List Int)
  | 0, _, _, _ => none
  | _ + 1, _, _, [] => none
  | f + 1, i, n, x :: r =>
    if x < 128 then (if i = 0 ∨ 0 < x then some (n + (x % 128).toNat * 2 ^ (7 * i), r) else none)
    else szGo f (i + 1) (n + (x % 128).toNat * 2 ^ (7 * i)) r
def sz (b : List Int) : Option (Nat × List Int) := szGo 5 0 0 b
/-- Two sizes. -/
def szs (b : List Int) : Option (Nat × Nat × List Int) :=
  match sz b with
  | none => none
  | some (n, r) => match sz r with
    | none => none
    | some (m, r2) => some (n, m, r2)
/-- Some bytes of a copy's offset or length: from bit k on, so many of them; the j-th byte is the next one. -/
def prt : Nat → Nat → Nat → Nat → Nat → List Int → Option (Nat × List Int)
  | 0, _, _, _, n, b => some (n, b)
  | c + 1, op, k, j, n, b =>
    if op / 2 ^ k % 2 = 0 then prt c op (k + 1) (j + 1) n b
    else if b = [] then none
    else prt c op (k + 1) (j + 1) (n + (b.getD 0 0).toNat * 2 ^ (8 * j)) (b.drop 1)
/-- A length of 0 is 65536. -/
def cnt (c : Nat) : Nat := if c = 0 then 65536 else c
/-- 4.2: one step: what it puts out, and what follows. -/
def stp (base : List Int) : List Int → Option (List Int × List Int)
  | [] => none
  | x :: r =>
    if x = 0 then none
    else if x < 128 then (if x.toNat ≤ r.length then some (r.take x.toNat, r.drop x.toNat) else none)
    else match prt 4 x.toNat 0 0 0 r with
      | none => none
      | some (at_, r1) => match prt 3 x.toNat 4 0 0 r1 with
        | none => none
        | some (c, r2) =>
          if at_ + cnt c ≤ base.length then some ((base.drop at_).take (cnt c), r2) else none
/-- 4.3: all steps, for m bytes. -/
def appF (base : List Int) (m : Nat) : Nat → List Int → List Int → Option (List Int)
  | 0, _, _ => none
  | f + 1, b, out =>
    if b = [] then (if out.length = m then some out else none)
    else match stp base b with
      | none => none
      | some (c, r) => if out.length + c.length ≤ m then appF base m f r (out ++ c) else none
def app (base d : List Int) : Option (List Int) :=
  match szs d with
  | none => none
  | some (n, m, r) => if n = base.length ∧ m ≤ 100000 then appF base m (r.length + 1) r [] else none
theorem prt_len : ∀ (c op k j n : Nat) (b : List Int) (n' : Nat) (r : List Int), prt c op k j n b = some (n', r) → r.length ≤ b.length
  | 0, op, k, j, n, b, n', r, h => by simp [prt] at h; rw [h.2]; exact Nat.le_refl _
  | c + 1, op, k, j, n, b, n', r, h => by
    rw [prt] at h
    split at h
    · exact prt_len c _ _ _ _ _ _ _ h
    · split at h
      · cases h
      · have := prt_len c _ _ _ _ _ _ _ h
        simp at this; omega
theorem stp_len {base b c r : List Int} (h : stp base b = some (c, r)) : r.length < b.length := by
  cases b with
  | nil => cases h
  | cons x t =>
    rw [stp] at h
    split at h
    · cases h
    · split at h
      · split at h
        · simp at h; rw [← h.2]; simp
          omega
        · cases h
      · split at h
        · cases h
        · rename_i a1 r1 e1
          split at h
          · cases h
          · rename_i c2 r2 e2
            have l1 := prt_len _ _ _ _ _ _ _ _ e1
            have l2 := prt_len _ _ _ _ _ _ _ _ e2
            split at h
            · simp only [Option.some.injEq, Prod.mk.injEq] at h; rw [← h.2]; simp; omega
            · cases h
/-- Enough rounds are enough. -/
theorem appF_more (base : List Int) (m : Nat) : ∀ (f : Nat) (b out : List Int), b.length < f → appF base m f b out = appF base m (f + 1) b out
  | 0, b, out, h => by omega
  | f + 1, b, out, h => by
    rw [appF, appF]
    by_cases hb : b = []
    · rw [if_pos hb, if_pos hb]
    · rw [if_neg hb, if_neg hb]
      cases e : stp base b with
      | none => rfl
      | some cr =>
        obtain ⟨c, r⟩ := cr
        simp only
        have := stp_len e
        rw [appF_more base m f r _ (by omega)]
theorem appF_fuel (base : List Int) (m : Nat) (b out : List Int) : ∀ (k : Nat), appF base m (b.length + 1 + k) b out = appF base m (b.length + 1) b out
  | 0 => rfl
  | k + 1 => by rw [← Nat.add_assoc, ← appF_more base m _ b out (by omega)]; exact appF_fuel base m b out k
/-- The steps from here on. -/
def appS (base : List Int) (m : Nat) (b out : List Int) : Option (List Int) := appF base m (b.length + 1) b out
theorem appS_eq (base : List Int) (m : Nat) (b out : List Int) : appS base m b out =
    if b = [] then (if out.length = m then some out else none)
    else match stp base b with
      | none => none
      | some (c, r) => if out.length + c.length ≤ m then appS base m r (out ++ c) else none := by
  unfold appS
  rw [appF]
  by_cases hb : b = []
  · rw [if_pos hb, if_pos hb]
  · rw [if_neg hb, if_neg hb]
    cases e : stp base b with
    | none => rfl
    | some cr =>
      obtain ⟨c, r⟩ := cr
      simp only
      have hl := stp_len e
      obtain ⟨k, hk⟩ : ∃ k, b.length = r.length + 1 + k := ⟨b.length - (r.length + 1), by omega⟩
      rw [hk, appF_fuel]
end Go.Proofs.YtblegkefeiefjaaDoor.Plain
