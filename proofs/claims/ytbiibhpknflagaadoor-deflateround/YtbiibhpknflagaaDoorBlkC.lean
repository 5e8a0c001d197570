/- What is read goes on: no block ends ahead of where it began. And: all blocks, one behind the other. -/
import Derived.Test.YtbiibhpknflagaaDoorBlkB
namespace Go.Proofs.YtbiibhpknflagaaDoor
open Go.RowKit Plain

theorem symsStep_ge {dl dd : Nat → Option (Nat × Nat)} {zs : List Int} {most win : Int} {p : Nat} {out : List Int} {rest : Nat → List Int → Res} (hr : ∀ q o q' o', rest q o = .ok (q', o') → q ≤ q') {q' : Nat} {o' : List Int}
    (h : symsStep dl dd zs most win p out rest = .ok (q', o')) : p ≤ q' := by
  unfold symsStep at h
  cases hdl : dl p with
  | none => simp [hdl] at h
  | some yp =>
    obtain ⟨y, p1⟩ := yp
    simp only [hdl] at h
    by_cases c1 : p < p1 ∧ p1 ≤ 8 * zs.length
    · rw [if_pos c1] at h
      by_cases c2 : y < 256
      · rw [if_pos c2] at h
        split at h
        · cases h
        · have := hr _ _ _ _ h; omega
      · rw [if_neg c2] at h
        split at h
        · simp only [Except.ok.injEq, Prod.mk.injEq] at h; omega
        · split at h
          · cases h
          · split at h
            · cases h
            · cases hdd : dd (p1 + lenBits.getD (y - 257) 0) with
              | none => simp only [hdd] at h; cases h
              | some dp =>
                obtain ⟨d, p3⟩ := dp
                simp only [hdd] at h
                by_cases c3 : p1 + lenBits.getD (y - 257) 0 < p3 ∧ p3 ≤ 8 * zs.length
                · rw [if_pos c3] at h
                  split at h
                  · cases h
                  · split at h
                    · cases h
                    · split at h
                      · cases h
                      · split at h
                        · cases h
                        · have := hr _ _ _ _ h; omega
                · rw [if_neg c3] at h; cases h
    · rw [if_neg c1] at h; cases h
theorem symsF_ge {dl dd : Nat → Option (Nat × Nat)} {zs : List Int} {most win : Int} : ∀ (f p : Nat) (out : List Int) (q' : Nat) (o' : List Int), symsF dl dd zs most win f p out = .ok (q', o') → p ≤ q'
  | 0, _, _, _, _, h => by cases h
  | f + 1, p, out, q', o', h => by
    rw [symsF] at h
    exact symsStep_ge (fun q o q1 o1 => symsF_ge f q o q1 o1) h
theorem runOf_ge {zs : List Int} {p y x t q : Nat} {row : List Nat} (h : runOf zs p y row = some (x, t, q)) : p ≤ q := by
  unfold runOf at h
  split at h
  · split at h
    · cases h
    · split at h
      · cases h
      · simp only [Option.some.injEq, Prod.mk.injEq] at h; omega
  · split at h
    · split at h
      · cases h
      · simp only [Option.some.injEq, Prod.mk.injEq] at h; omega
    · split at h
      · split at h
        · cases h
        · simp only [Option.some.injEq, Prod.mk.injEq] at h; omega
      · simp only [Option.some.injEq, Prod.mk.injEq] at h; omega
theorem rowF_ge {dc : Nat → Option (Nat × Nat)} {zs : List Int} {size : Nat} (hd : ∀ p y p1, dc p = some (y, p1) → p ≤ p1) : ∀ (f p : Nat) (row : List Nat) (q : Nat) (r : List Nat), rowF dc zs size f p row = some (q, r) → p ≤ q
  | 0, p, row, q, r, h => by
    rw [rowF] at h
    split at h
    · cases h
    · simp only [Option.some.injEq, Prod.mk.injEq] at h; omega
  | f + 1, p, row, q, r, h => by
    rw [rowF] at h
    split at h
    · cases hc : dc p with
      | none => simp [hc] at h
      | some yp =>
        obtain ⟨y, p1⟩ := yp
        simp only [hc] at h
        cases hr : runOf zs p1 y row with
        | none => simp [hr] at h
        | some xt =>
          obtain ⟨x, t, q1⟩ := xt
          simp only [hr] at h
          split at h
          · cases h
          · have h1 := hd _ _ _ hc
            have h2 := runOf_ge hr
            have h3 := rowF_ge hd f _ _ _ _ h
            omega
    · simp only [Option.some.injEq, Prod.mk.injEq] at h; omega
theorem toldOf_ge {zs : List Int} {p q : Nat} {l d : List Nat} (h : toldOf zs p = some (l, d, q)) : p ≤ q := by
  unfold toldOf at h
  iterate 6 (split at h; · cases h)
  split at h
  · cases h
  · rename_i q1 row hr
    have := rowF_ge (fun p y p1 h => by have := (dec_lt h).1; omega) _ _ _ _ _ hr
    split at h
    · cases h
    · split at h
      · cases h
      · split at h
        · cases h
        · simp only [Option.some.injEq, Prod.mk.injEq] at h; omega
theorem bodyOf_ge {zs : List Int} {most win : Int} {k p q : Nat} {out o : List Int} (h : bodyOf zs most win k p out = .ok (q, o)) : p ≤ q := by
  unfold bodyOf at h
  split at h
  · unfold storedOf at h
    iterate 4 (split at h; · cases h)
    simp only [Except.ok.injEq, Prod.mk.injEq] at h
    omega
  · split at h
    · exact symsF_ge _ _ _ _ _ h
    · split at h
      · split at h
        · rename_i l d q1 ht
          have h1 := toldOf_ge ht
          have h2 := symsF_ge _ _ _ _ _ h
          omega
        · cases h
      · cases h

/-- All blocks, from bit p on. -/
def blocksF (zs : List Int) (most win : Int) : Nat → Nat → List Int → Res
  | 0, _, _ => .error 10
  | f + 1, p, out =>
    if 8 * zs.length < p + 3 then .error 10
    else match bodyOf zs most win (getB zs (p + 1) 2) (p + 1 + 2) out with
      | .error k => .error k
      | .ok (q, o) => if getB zs p 1 = 1 then .ok (q, o) else blocksF zs most win f q o
theorem blocksF_more (zs : List Int) (most win : Int) : ∀ (f p : Nat) (out : List Int), 8 * zs.length - p < f → blocksF zs most win f p out = blocksF zs most win (f + 1) p out
  | 0, _, _, h => by omega
  | f + 1, p, out, h => by
    rw [blocksF, blocksF]
    by_cases hs : 8 * zs.length < p + 3
    · rw [if_pos hs, if_pos hs]
    · rw [if_neg hs, if_neg hs]
      cases hb : bodyOf zs most win (getB zs (p + 1) 2) (p + 1 + 2) out with
      | error k => rfl
      | ok r =>
        obtain ⟨q, o⟩ := r
        simp only
        have := bodyOf_ge hb
        by_cases hg : getB zs p 1 = 1
        · rw [if_pos hg, if_pos hg]
        · rw [if_neg hg, if_neg hg]
          exact blocksF_more zs most win f q o (by omega)
def blocks (zs : List Int) (most win : Int) (p : Nat) (out : List Int) : Res := blocksF zs most win (8 * zs.length + 1) p out
theorem blocks_eq (zs : List Int) (most win : Int) (p : Nat) (out : List Int) : blocks zs most win p out =
    if 8 * zs.length < p + 3 then .error 10
    else match bodyOf zs most win (getB zs (p + 1) 2) (p + 1 + 2) out with
      | .error k => .error k
      | .ok (q, o) => if getB zs p 1 = 1 then .ok (q, o) else blocks zs most win q o := by
  unfold blocks
  rw [blocksF]
  by_cases hs : 8 * zs.length < p + 3
  · rw [if_pos hs, if_pos hs]
  · rw [if_neg hs, if_neg hs]
    cases hb : bodyOf zs most win (getB zs (p + 1) 2) (p + 1 + 2) out with
    | error k => rfl
    | ok r =>
      obtain ⟨q, o⟩ := r
      simp only
      have := bodyOf_ge hb
      by_cases hg : getB zs p 1 = 1
      · rw [if_pos hg, if_pos hg]
      · rw [if_neg hg, if_neg hg]
        exact blocksF_more zs most win _ q o (by omega)
end Go.Proofs.YtbiibhpknflagaaDoor
