/- Plain: which edits are in hunks; what is written of them. -/
import Derived.Test.YtjpihkheapjigaaDoorEdP
namespace Go.Proofs.YtjpihkheapjigaaDoor
set_option linter.unusedVariables false
set_option linter.unusedSimpArgs false
abbrev Sp := Nat × Nat
/-- Is there a change? -/
abbrev Ch (L : List Ed) (i : Nat) : Prop := (L.getD i (0, [])).1 ≠ 0
/-- A change's span. -/
def spn (c n i : Nat) : Sp := (i - c, min (i + c + 1) n)
/-- One span more. -/
def addS (l : List Sp) (s : Sp) : List Sp := match l.getLast? with
  | none => [s]
  | some p => if s.1 ≤ p.2 then l.dropLast ++ [(p.1, s.2)] else l ++ [s]
/-- The spans of the changes ahead of i. -/
def sps (L : List Ed) (c : Nat) : Nat → List Sp
  | 0 => []
  | i + 1 => if Ch L i then addS (sps L c i) (spn c L.length i) else sps L c i
theorem addS_new (l : List Sp) (f e : Nat) (s : Sp) (h : s.1 ≤ e) : addS (l ++ [(f, e)]) s = l ++ [(f, s.2)] := by
  unfold addS
  rw [List.getLast?_append]
  simp [h]
theorem addS_far (l : List Sp) (s : Sp) (h : ∀ p, l.getLast? = some p → p.2 < s.1) : addS l s = l ++ [s] := by
  unfold addS
  cases hl : l.getLast? with
  | none => rw [List.getLast?_eq_none_iff.1 hl]; rfl
  | some p =>
    have := h p hl
    simp only
    rw [if_neg (by omega)]
theorem sps_keep (L : List Ed) (c : Nat) : ∀ (i j : Nat), i ≤ j → (∀ k, i ≤ k → k < j → ¬ Ch L k) → sps L c j = sps L c i
  | i, 0, h, _ => by rw [Nat.le_zero.1 h]
  | i, j + 1, h, hk => by
    by_cases e : i = j + 1
    · rw [e]
    · rw [sps, if_neg (hk j (by omega) (by omega)), sps_keep L c i j (by omega) (fun k h1 h2 => hk k h1 (by omega))]
/-- The document is at i, and has written the hunks hs. -/
def At_ (L : List Ed) (c i : Nat) (hs : List Sp) : Prop := i ≤ L.length ∧ sps L c i = hs ∧ ((hs = [] ∧ ∀ k, k < i → ¬ Ch L k) ∨ ∃ l f la, hs = l ++ [(f, min (la + c + 1) L.length)] ∧ la < i ∧ min (la + c + 1) L.length ≤ i ∧ (∀ k, la < k → k < i → ¬ Ch L k) ∧ ∀ k, la < k → k ≤ la + 2 * c + 1 → k < L.length → ¬ Ch L k)
theorem at_start (L : List Ed) (c : Nat) : At_ L c 0 [] := ⟨Nat.zero_le _, rfl, .inl ⟨rfl, fun k hk => by omega⟩⟩
theorem At_.keep {L : List Ed} {c i : Nat} {hs : List Sp} (h : At_ L c i hs) (hi : i < L.length) (hk : ¬ Ch L i) : At_ L c (i + 1) hs := by
  obtain ⟨h1, h2, h3⟩ := h
  refine ⟨by omega, by rw [sps, if_neg hk]; exact h2, ?_⟩
  rcases h3 with ⟨e, h4⟩ | ⟨l, f, la, e, g1, g2, g3, g4⟩
  · exact .inl ⟨e, fun k hk2 => by
      by_cases ek : k = i
      · rw [ek]; exact hk
      · exact h4 k (by omega)⟩
  · exact .inr ⟨l, f, la, e, by omega, by omega, fun k k1 k2 => by
      by_cases ek : k = i
      · rw [ek]; exact hk
      · exact g3 k k1 (by omega), g4⟩
/-- The document is in a hunk that began at the change i: it has looked up to k; the last change is last. -/
def In_ (L : List Ed) (c i last k : Nat) (hs : List Sp) : Prop := i ≤ last ∧ last < k ∧ k ≤ L.length ∧ Ch L last ∧ sps L c k = hs ++ [(i - c, min (last + c + 1) L.length)] ∧ (∀ j, last < j → j < k → ¬ Ch L j)
theorem At_.change {L : List Ed} {c i : Nat} {hs : List Sp} (h : At_ L c i hs) (hi : i < L.length) (hk : Ch L i) : In_ L c i i (i + 1) hs ∧ ∀ k, i - c ≤ k → k < i → ¬ Ch L k := by
  obtain ⟨h1, h2, h3⟩ := h
  have hfar : ∀ p, hs.getLast? = some p → p.2 < (spn c L.length i).1 := by
    intro p hp
    rcases h3 with ⟨e, h4⟩ | ⟨l, f, la, e, g1, g2, g3, g4⟩
    · rw [e] at hp; cases hp
    · rw [e, List.getLast?_append] at hp
      simp only [List.getLast?_singleton, Option.some_or, Option.some.injEq] at hp
      rw [← hp]
      have : ¬ i ≤ la + 2 * c + 1 := fun h5 => g4 i g1 h5 hi hk
      show min (la + c + 1) L.length < i - c
      omega
  refine ⟨⟨Nat.le_refl _, by omega, by omega, hk, ?_, fun j j1 j2 => by omega⟩, fun k k1 k2 => ?_⟩
  · rw [sps, if_pos hk, h2, addS_far _ _ hfar]
    rfl
  · rcases h3 with ⟨e, h4⟩ | ⟨l, f, la, e, g1, g2, g3, g4⟩
    · exact h4 k k2
    · have : ¬ i ≤ la + 2 * c + 1 := fun h5 => g4 i g1 h5 hi hk
      exact g3 k (by omega) k2
theorem In_.keep {L : List Ed} {c i last k : Nat} {hs : List Sp} (h : In_ L c i last k hs) (hk : k < L.length) (hc : ¬ Ch L k) : In_ L c i last (k + 1) hs := by
  obtain ⟨h1, h2, h3, h4, h5, h6⟩ := h
  exact ⟨h1, by omega, by omega, h4, by rw [sps, if_neg hc]; exact h5, fun j j1 j2 => by
    by_cases e : j = k
    · rw [e]; exact hc
    · exact h6 j j1 (by omega)⟩
theorem In_.more {L : List Ed} {c i last k : Nat} {hs : List Sp} (h : In_ L c i last k hs) (hk : k < L.length) (hc : Ch L k) (hn : k - last - 1 ≤ 2 * c) : In_ L c i k (k + 1) hs := by
  obtain ⟨h1, h2, h3, h4, h5, h6⟩ := h
  refine ⟨by omega, by omega, by omega, hc, ?_, fun j j1 j2 => by omega⟩
  rw [sps, if_pos hc, h5, addS_new _ _ _ _ (by show k - c ≤ min (last + c + 1) L.length; omega)]
  rfl
/-- The hunk's end. -/
theorem In_.done {L : List Ed} {c i last k : Nat} {hs : List Sp} (h : In_ L c i last k hs) (hend : k = L.length ∨ last + 2 * c + 1 < k) : At_ L c (min (last + c + 1) L.length) (hs ++ [(i - c, min (last + c + 1) L.length)]) ∧ ∀ j, last < j → j < min (last + c + 1) L.length → ¬ Ch L j := by
  obtain ⟨h1, h2, h3, h4, h5, h6⟩ := h
  have hek : min (last + c + 1) L.length ≤ k := by omega
  have hkeep : ∀ j, last < j → j < min (last + c + 1) L.length → ¬ Ch L j := fun j j1 j2 => h6 j j1 (by omega)
  refine ⟨⟨by omega, ?_, .inr ⟨hs, i - c, last, rfl, by omega, Nat.le_refl _, hkeep, fun j j1 j2 j3 => h6 j j1 (by omega)⟩⟩, hkeep⟩
  have e1 := sps_keep L c (last + 1) k (by omega) (fun j j1 j2 => h6 j (by omega) j2)
  have e2 := sps_keep L c (last + 1) (min (last + c + 1) L.length) (by omega) (fun j j1 j2 => hkeep j (by omega) j2)
  rw [e2, ← e1, h5]
theorem At_.all {L : List Ed} {c : Nat} {hs : List Sp} (h : At_ L c L.length hs) : sps L c L.length = hs := h.2.1
end Go.Proofs.YtjpihkheapjigaaDoor
