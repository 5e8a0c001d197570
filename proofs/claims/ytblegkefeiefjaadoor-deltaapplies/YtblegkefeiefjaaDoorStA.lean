/- The program's 'readCopy'. -/
import Derived.Test.YtblegkefeiefjaaDoorSzB
namespace Go.Proofs.YtblegkefeiefjaaDoor
open Go.RowKit Plain
set_option linter.unusedVariables false
set_option linter.unusedSimpArgs false

/-- The bytes of a copy as one number: from bit k on, so many; at place u of the bytes. -/
def plc (bs : List Int) (op : Nat) : Nat → Nat → Nat → Nat → Option (Nat × Nat)
  | 0, _, u, n => some (n, u)
  | c + 1, k, u, n =>
    if op / 2 ^ k % 2 = 0 then plc bs op c (k + 1) u n
    else if u = bs.length then none
    else plc bs op c (k + 1) (u + 1) (n + (bs.getD u 0).toNat * 2 ^ (8 * k))
/-- As the document has it: offset and length apart. -/
theorem plc_prt (bs : List Int) (op : Nat) : ∀ (c k j u n : Nat) (s : Nat), u ≤ bs.length → k = j + s → (prt c op k j n (bs.drop u) = none → plc bs op c k u (n * 2 ^ (8 * s)) = none) ∧ (∀ n' r, prt c op k j n (bs.drop u) = some (n', r) → ∃ u', plc bs op c k u (n * 2 ^ (8 * s)) = some (n' * 2 ^ (8 * s), u') ∧ r = bs.drop u' ∧ u ≤ u' ∧ u' ≤ bs.length)
  | 0, k, j, u, n, s, hu, hk => ⟨fun h => by simp [prt] at h, fun n' r h => by
      simp only [prt, Option.some.injEq, Prod.mk.injEq] at h
      exact ⟨u, by rw [plc, h.1], h.2.symm, Nat.le_refl _, hu⟩⟩
  | c + 1, k, j, u, n, s, hu, hk => by
    rw [prt, plc]
    by_cases hb : op / 2 ^ k % 2 = 0
    · rw [if_pos hb, if_pos hb]
      exact plc_prt bs op c (k + 1) (j + 1) u n s hu (by omega)
    · rw [if_neg hb, if_neg hb]
      by_cases he : u = bs.length
      · rw [if_pos he, if_pos (by rw [he]; simp)]
        exact ⟨fun _ => rfl, fun _ _ h => by cases h⟩
      · rw [if_neg he, if_neg (by simp; omega)]
        have hlt : u < bs.length := by omega
        have e1 : (bs.drop u).getD 0 0 = bs.getD u 0 := by simp [List.getD_eq_getElem?_getD]
        have e2 : (bs.drop u).drop 1 = bs.drop (u + 1) := by rw [List.drop_drop]
        have e3 : n * 2 ^ (8 * s) + (bs.getD u 0).toNat * 2 ^ (8 * k) = (n + (bs.getD u 0).toNat * 2 ^ (8 * j)) * 2 ^ (8 * s) := by
          rw [Nat.add_mul, Nat.mul_assoc, ← Nat.pow_add, show 8 * j + 8 * s = 8 * k by omega]
        rw [e1, e2, e3]
        have ih := plc_prt bs op c (k + 1) (j + 1) (u + 1) (n + (bs.getD u 0).toNat * 2 ^ (8 * j)) s (by omega) (by omega)
        refine ⟨ih.1, fun n' r h => ?_⟩
        obtain ⟨u', h1, h2, h3, h4⟩ := ih.2 n' r h
        exact ⟨u', h1, h2, by omega, h4⟩
theorem plc_add (bs : List Int) (op : Nat) : ∀ (c d k u n : Nat), plc bs op (c + d) k u n = match plc bs op c k u n with
    | none => none
    | some (n', u') => plc bs op d (k + c) u' n'
  | 0, d, k, u, n => by rw [Nat.zero_add, plc]; rfl
  | c + 1, d, k, u, n => by
    rw [show c + 1 + d = (c + d) + 1 by omega, plc, plc]
    split
    · rw [plc_add bs op c d (k + 1) u n, show k + 1 + c = k + (c + 1) by omega]
    · split
      · rfl
      · rw [plc_add bs op c d (k + 1) (u + 1) _, show k + 1 + c = k + (c + 1) by omega]
/-- What one byte more makes. -/
theorem plc_base (bs : List Int) (op : Nat) : ∀ (c k u n b : Nat), plc bs op c k u (b + n) = (plc bs op c k u n).map fun p => (b + p.1, p.2)
  | 0, k, u, n, b => rfl
  | c + 1, k, u, n, b => by
    rw [plc, plc]
    split
    · exact plc_base bs op c _ _ _ _
    · split
      · rfl
      · rw [Nat.add_assoc]; exact plc_base bs op c _ _ _ _
theorem prt_lt : ∀ (c op k j n : Nat) (b : List Int) (n' : Nat) (r : List Int), IsB b → n < 2 ^ (8 * j) → prt c op k j n b = some (n', r) → n' < 2 ^ (8 * (j + c))
  | 0, op, k, j, n, b, n', r, hb, hn, h => by simp [prt] at h; rw [← h.1]; exact hn
  | c + 1, op, k, j, n, b, n', r, hb, hn, h => by
    rw [prt] at h
    have hp : 2 ^ (8 * (j + 1)) = 256 * 2 ^ (8 * j) := by rw [show 8 * (j + 1) = 8 + 8 * j by omega, Nat.pow_add]
    split at h
    · have := prt_lt c op (k + 1) (j + 1) n b n' r hb (by rw [hp]; have := Nat.two_pow_pos (8 * j); omega) h
      rwa [show j + 1 + c = j + (c + 1) by omega] at this
    · split at h
      · cases h
      · rename_i hne
        have hx : 0 ≤ b.getD 0 0 ∧ b.getD 0 0 ≤ 255 := by have := hb.get 0; rwa [List.getD_eq_getElem?_getD]
        have hm : (b.getD 0 0).toNat * 2 ^ (8 * j) ≤ 255 * 2 ^ (8 * j) := Nat.mul_le_mul (by omega) (Nat.le_refl _)
        have := prt_lt c op (k + 1) (j + 1) _ (b.drop 1) n' r (isB_drop hb 1) (by rw [hp]; omega) h
        rwa [show j + 1 + c = j + (c + 1) by omega] at this
/-- THE COPY's NUMBER is the document's two. -/
theorem plc_two (bs : List Int) (op : Nat) (h1 : 1 ≤ bs.length) (hb : IsB bs) :
    (prt 4 op 0 0 0 (bs.drop 1) = none → plc bs op 7 0 1 0 = none) ∧
    (∀ n r, prt 4 op 0 0 0 (bs.drop 1) = some (n, r) → (prt 3 op 4 0 0 r = none → plc bs op 7 0 1 0 = none) ∧
      ∀ c r2, prt 3 op 4 0 0 r = some (c, r2) → ∃ u, plc bs op 7 0 1 0 = some (n + c * 4294967296, u) ∧ r2 = bs.drop u ∧ 1 ≤ u ∧ u ≤ bs.length ∧ n < 4294967296 ∧ c < 16777216) := by
  have p1 := plc_prt bs op 4 0 0 1 0 0 h1 rfl
  have pa := plc_add bs op 4 3 0 1 0
  simp only [Nat.zero_mul, Nat.mul_zero, Nat.pow_zero, Nat.mul_one, Nat.zero_add] at p1 pa
  refine ⟨fun h => by rw [pa, p1.1 h], fun n r h => ?_⟩
  obtain ⟨u1, q1, q2, q3, q4⟩ := p1.2 n r h
  rw [pa, q1]
  simp only
  have p2 := plc_prt bs op 3 4 0 u1 0 4 q4 rfl
  have pb := plc_base bs op 3 4 u1 0 n
  simp only [Nat.zero_mul, Nat.add_zero] at p2 pb
  rw [pb]
  refine ⟨fun h2 => ?_, fun c r2 h2 => ?_⟩
  · rw [q2] at h2
    rw [p2.1 h2]; rfl
  · rw [q2] at h2
    obtain ⟨u2, s1, s2, s3, s4⟩ := p2.2 c r2 h2
    rw [s1]
    have n1 := prt_lt 4 op 0 0 0 _ n r (isB_drop hb 1) (by simp) h
    have n2 := prt_lt 3 op 4 0 0 _ c r2 (isB_drop hb u1) (by simp) h2
    exact ⟨u2, rfl, s2, by omega, s4, n1, n2⟩
end Go.Proofs.YtblegkefeiefjaaDoor
