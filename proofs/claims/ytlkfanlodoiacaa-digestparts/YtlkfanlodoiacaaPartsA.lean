/- Parts, one after the other: plain; 'append' of a part. -/
import Derived.Test.YtlkfanlodoiacaaLawS
import Derived.Laws.OwnMore
namespace Go.Proofs.Ytlkfanlodoiacaa
open Go.RowKit
set_option linter.unusedVariables false

/-- The first j parts in a row. -/
def fl (zs : Nat → List Int) : Nat → List Int
  | 0 => []
  | j + 1 => fl zs j ++ zs j
/-- Those with an even number among them. -/
def ev (zs : Nat → List Int) : Nat → List Int
  | 0 => []
  | j + 1 => if j % 2 = 0 then ev zs j ++ zs j else ev zs j
theorem ev_len (zs : Nat → List Int) : ∀ j, (ev zs j).length ≤ (fl zs j).length
  | 0 => Nat.le_refl _
  | j + 1 => by
    have := ev_len zs j
    simp only [ev, fl, List.length_append]
    split
    · rw [List.length_append]; omega
    · omega
theorem fl_isB (zs : Nat → List Int) (N : Nat) (h : ∀ j, j < N → IsB (zs j)) : ∀ j, j ≤ N → IsB (fl zs j)
  | 0, _ => fun x hx => by cases hx
  | j + 1, hj => (fl_isB zs N h j (by omega)).app (h j (by omega))
theorem ev_isB (zs : Nat → List Int) (N : Nat) (h : ∀ j, j < N → IsB (zs j)) : ∀ j, j ≤ N → IsB (ev zs j)
  | 0, _ => fun x hx => by cases hx
  | j + 1, hj => by
    simp only [ev]
    split
    · exact (ev_isB zs N h j (by omega)).app (h j (by omega))
    · exact ev_isB zs N h j (by omega)
theorem fl_mono (zs : Nat → List Int) : ∀ j k, j ≤ k → (fl zs j).length ≤ (fl zs k).length
  | j, 0, h => (Nat.le_zero.1 h) ▸ Nat.le_refl _
  | j, k + 1, h => by
    rcases Nat.lt_or_ge j (k + 1) with h' | h'
    · have := fl_mono zs j k (by omega); simp only [fl, List.length_append]; omega
    · obtain rfl : j = k + 1 := by omega
      exact Nat.le_refl _
theorem ev_mono (zs : Nat → List Int) : ∀ j k, j ≤ k → (ev zs j).length ≤ (ev zs k).length
  | j, 0, h => (Nat.le_zero.1 h) ▸ Nat.le_refl _
  | j, k + 1, h => by
    rcases Nat.lt_or_ge j (k + 1) with h' | h'
    · have := ev_mono zs j k (by omega)
      simp only [ev]
      split
      · rw [List.length_append]; omega
      · omega
    · obtain rfl : j = k + 1 := by omega
      exact Nat.le_refl _
theorem row_app (k : IntKind) (l m : List Int) : row k (l ++ m) = row k l ++ row k m := by simp [row]
/-- 'append' of a part, nil or not, to a row of one's own. -/
theorem append_more (ao : Option Addr) (n cp : Nat) (ls : List Int) (A : Option Addr) (C : Nat) (Z : List Int) (w : World) (B : Nat) (hB : B ≤ w.heap.size) (hown : w.ownsRow B 5 1 (.slice ao n cp) n (row .u8 ls)) (hl : n + Z.length ≤ 600000) (hnil : A = none → C = 0) (hc : 0 < Z.length → ∃ b off, A = some ⟨b, off, none⟩ ∧ At w b off Z) :
    ∃ w1 ao2 cp2, (Builtin.append_ #[22, 22] 22 #[.slice ao n cp, .slice A Z.length C]).run Try.prog w = .ok (.slice ao2 (n + Z.length : Nat) cp2) w1 ∧ w1.ownsRow B 5 1 (.slice ao2 (n + Z.length : Nat) cp2) (n + Z.length) (row .u8 (ls ++ Z)) ∧ w.grownBy w1 (Value.slice ao n cp).ownBlock := by
  obtain ⟨i5, hi, hz0, hz1, hz2⟩ := info_parts Try.info5
  cases A with
  | none =>
    have h0 : Z.length = 0 := by
      rcases Nat.eq_zero_or_pos Z.length with h | h
      · exact h
      · obtain ⟨b, off, h1, -⟩ := hc h; cases h1
    obtain rfl : Z = [] := List.eq_nil_of_length_eq_zero h0
    have hC := hnil rfl
    subst hC
    have hr := run_append_owned_none (P := Try.prog) w B 22 22 5 i5 1 Try.underlying22 hi (.slice ao n cp) n (row .u8 ls) hown
    exact ⟨w, ao, cp, hr, by rw [List.append_nil]; exact hown, World.grownBy.refl _ _⟩
  | some ad =>
    obtain ⟨v', w', hr, h2, h3, -, -⟩ := run_append_own_at (P := Try.prog) w B 22 22 5 i5 (.int .u8 0) 1 1 Try.underlying22 hi hz0 hz1 hz2 rfl (by omega) (.slice ao n cp) n (row .u8 ls) hown ad Z.length C (row .u8 Z) (by rw [row_len]; omega)
      (fun j u hj => by
        have hjm : j < Z.length := by rcases Nat.lt_or_ge j Z.length with h | h; exact h; rw [List.getElem?_eq_none (by rw [row_len]; exact h)] at hj; cases hj
        obtain ⟨b, off, h1, hat⟩ := hc (by omega)
        cases h1
        rw [row_at .u8 Z j hjm] at hj
        cases hj
        rw [addr_add]; exact hat j hjm) (row_one _ _) (by unfold maxLen; omega) (by omega) hB
    rw [← row_app] at h2
    obtain ⟨ao2, cp2, rfl⟩ := owns_shape h2
    exact ⟨w', ao2, cp2, hr, h2, h3⟩
end Go.Proofs.Ytlkfanlodoiacaa
