/- Plain: how many lines there are, of parts of the edits. -/
import Derived.Test.YtjpihkheapjigaaDoorPaN
namespace Go.Proofs.YtjpihkheapjigaaDoor
set_option linter.unusedVariables false
set_option linter.unusedSimpArgs false
theorem cA_app (L M : List Ed) : cA (L ++ M) = cA L + cA M := by unfold cA; rw [List.filter_append, List.length_append]
theorem cB_app (L M : List Ed) : cB (L ++ M) = cB L + cB M := by unfold cB; rw [List.filter_append, List.length_append]
theorem take_seg (L : List Ed) (f e : Nat) (h : f ≤ e) : L.take e = L.take f ++ seg L (f, e) := by
  unfold seg
  conv => lhs; rw [← List.take_append_drop f (L.take e)]
  rw [List.take_take, Nat.min_eq_left h]
theorem cA_seg (L : List Ed) (f e : Nat) (h : f ≤ e) : cA (L.take e) = cA (L.take f) + cA (seg L (f, e)) := by rw [take_seg L f e h, cA_app]
theorem cB_seg (L : List Ed) (f e : Nat) (h : f ≤ e) : cB (L.take e) = cB (L.take f) + cB (seg L (f, e)) := by rw [take_seg L f e h, cB_app]
theorem seg_none (L : List Ed) (f : Nat) : seg L (f, f) = [] := by
  unfold seg
  rw [List.drop_eq_nil_iff, List.length_take]
  exact Nat.min_le_left _ _
theorem seg_snoc (L : List Ed) (f k : Nat) (h : f ≤ k) (hk : k < L.length) : seg L (f, k + 1) = seg L (f, k) ++ [L.getD k (0, [])] := by
  unfold seg
  rw [take_snocG (0, []) L k hk, List.drop_append_of_le_length (by rw [List.length_take]; omega)]
theorem keep_c (L : List Ed) (f : Nat) : ∀ d, f + d ≤ L.length → (∀ j, f ≤ j → j < f + d → ¬ Ch L j) → cA (seg L (f, f + d)) = d ∧ cB (seg L (f, f + d)) = d
  | 0, _, _ => by rw [Nat.add_zero, seg_none]; exact ⟨rfl, rfl⟩
  | d + 1, h, hk => by
    have ih := keep_c L f d (by omega) (fun j h1 h2 => hk j h1 (by omega))
    have h0 : (L.getD (f + d) (0, [])).1 = 0 := by
      have := hk (f + d) (by omega) (by omega)
      simpa [Ch] using this
    rw [← Nat.add_assoc, seg_snoc L f (f + d) (by omega) (by omega), cA_snoc, cB_snoc, h0]
    simp [ih.1, ih.2]
/-- The hunk's start, counted back from a change. -/
theorem back_c (L : List Ed) (f i : Nat) (h : f ≤ i) (hi : i ≤ L.length) (hk : ∀ j, f ≤ j → j < i → ¬ Ch L j) : cA (L.take i) = cA (L.take f) + (i - f) ∧ cB (L.take i) = cB (L.take f) + (i - f) := by
  have e : f + (i - f) = i := by omega
  have := keep_c L f (i - f) (by omega) (fun j h1 h2 => hk j h1 (by omega))
  rw [e] at this
  rw [cA_seg L f i h, cB_seg L f i h, this.1, this.2]
  exact ⟨rfl, rfl⟩
theorem cA_lt (L : List Ed) (i : Nat) : cA (L.take i) ≤ i := by
  have := cA_le (L.take i)
  rw [List.length_take] at this
  omega
theorem cB_lt (L : List Ed) (i : Nat) : cB (L.take i) ≤ i := by
  have := cB_le (L.take i)
  rw [List.length_take] at this
  omega
/-- What is written of a hunk. -/
theorem hkT_eq (L : List Ed) (f e : Nat) : hkT L (f, e) = headT (cA (L.take f)) (cA (seg L (f, e))) (cB (L.take f)) (cB (seg L (f, e))) ++ (seg L (f, e)).flatMap lineT := rfl
end Go.Proofs.YtjpihkheapjigaaDoor
