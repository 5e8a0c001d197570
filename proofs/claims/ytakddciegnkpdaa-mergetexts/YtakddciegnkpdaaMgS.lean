/- Plain: where 'cut' stands ahead of line i. -/
import Derived.Test.YtakddciegnkpdaaMgC
namespace Go.Proofs.Ytakddciegnkpdaa
set_option linter.unusedVariables false
set_option linter.unusedSimpArgs false
/-- One side: what was taken of it, and what is left. -/
structure Sd (t : Str) (A : List Str) (K : List Bool) (I : List Str) (L : List (Option Nat)) (i f : Nat) (x : Str) : Prop where
  le : f ≤ t.length
  rest : t.drop f = x ++ sfx (A.drop i) (K.drop i) (I.drop i)
  pl : L.drop i = pl2 (f + x.length) (A.drop i) (K.drop i) (I.drop i)
section
variable {t : Str} {A : List Str} {K : List Bool} {I : List Str} {L : List (Option Nat)} {i f : Nat} {x : Str}
theorem Sd.here (h : Sd t A K I L i f x) (hA : i < A.length) (hK : K.length = A.length) : L.getD i none = (if K.getD i false then some (f + (x ++ I.getD i []).length) else none) ∧ i < L.length := by
  have h1 := h.pl
  rw [pl2_at _ A K I i hA hK] at h1
  have hl : i < L.length := by
    rcases Nat.lt_or_ge i L.length with h' | h'
    · exact h'
    · rw [List.drop_of_length_le h'] at h1
      cases h1
  rw [getD_cons L none i hl] at h1
  refine ⟨?_, hl⟩
  have h2 := (List.cons.inj h1).1
  rw [h2, List.length_append, Nat.add_assoc]
/-- The next line is not firm. -/
theorem Sd.soft (h : Sd t A K I L i f x) (hA : i < A.length) (hK : K.length = A.length) : Sd t A K I L (i + 1) f (x ++ I.getD i [] ++ (if K.getD i false then A.getD i [] else [])) := by
  have h1 := h.pl
  rw [pl2_at _ A K I i hA hK, getD_cons L none i (h.here hA hK).2] at h1
  refine ⟨h.le, ?_, ?_⟩
  · rw [h.rest, sfx_at A K I i hA hK]; simp
  · rw [(List.cons.inj h1).2]
    congr 1
    rw [List.length_append, List.length_append]
    split <;> simp <;> omega
/-- It is firm: what is ahead of it, it, what is behind it. -/
theorem Sd.firm (h : Sd t A K I L i f x) (hA : i < A.length) (hK : K.length = A.length) (hk : K.getD i false = true) :
    (t.drop f).take ((x ++ I.getD i []).length) = x ++ I.getD i [] ∧ (t.drop (f + (x ++ I.getD i []).length)).take (A.getD i []).length = A.getD i [] ∧
      Sd t A K I L (i + 1) (f + (x ++ I.getD i []).length + (A.getD i []).length) [] := by
  have h1 := h.pl
  rw [pl2_at _ A K I i hA hK, getD_cons L none i (h.here hA hK).2] at h1
  have hr := h.rest
  rw [sfx_at A K I i hA hK, hk, if_pos rfl, ← List.append_assoc] at hr
  have hd : t.drop (f + (x ++ I.getD i []).length) = A.getD i [] ++ sfx (A.drop (i + 1)) (K.drop (i + 1)) (I.drop (i + 1)) := by
    rw [← List.drop_drop, hr, List.drop_left]
  refine ⟨by rw [hr, List.take_left], by rw [hd, List.take_left], ?_, ?_, ?_⟩
  · have h3 := congrArg List.length hr
    simp only [List.length_drop, List.length_append] at h3 ⊢
    have := h.le
    omega
  · rw [← List.drop_drop, hd, List.drop_left]; rfl
  · rw [(List.cons.inj h1).2, hk]
    congr 1
    simp only [List.length_append, List.length_nil, if_true]
    omega
theorem Sd.last (h : Sd t A K I L i f x) (hA : A.length ≤ i) : t.drop f = x ++ I.getD i [] := by
  have := h.rest
  rwa [sfx_end A K I i hA] at this
end
/-- The base. -/
structure Bs (s : Str) (A : List Str) (i f : Nat) (o : Str) : Prop where
  le : f ≤ s.length
  rest : s.drop f = o ++ (A.drop i).flatten
section
variable {s : Str} {A : List Str} {i f : Nat} {o : Str}
theorem Bs.soft (h : Bs s A i f o) (hA : i < A.length) : Bs s A (i + 1) f (o ++ A.getD i []) :=
  ⟨h.le, by rw [h.rest, getD_cons A [] i hA]; simp⟩
theorem Bs.firm (h : Bs s A i f o) (hA : i < A.length) : (s.drop f).take o.length = o ∧ (s.drop (f + o.length)).take (A.getD i []).length = A.getD i [] ∧ Bs s A (i + 1) (f + o.length + (A.getD i []).length) [] := by
  have hr := h.rest
  rw [getD_cons A [] i hA, List.flatten_cons] at hr
  have hd : s.drop (f + o.length) = A.getD i [] ++ (A.drop (i + 1)).flatten := by rw [← List.drop_drop, hr, List.drop_left]
  refine ⟨by rw [hr, List.take_left], by rw [hd, List.take_left], ?_, ?_⟩
  · have h2 := congrArg List.length hd
    rw [List.length_drop, List.length_append] at h2
    have h3 := congrArg List.length hr
    rw [List.length_drop, List.length_append, List.length_append] at h3
    have := h.le
    omega
  · rw [← List.drop_drop, hd, List.drop_left]; rfl
theorem Bs.last (h : Bs s A i f o) (hA : A.length ≤ i) : s.drop f = o := by
  have := h.rest
  rw [List.drop_of_length_le hA] at this
  simpa using this
theorem Bs.len (h : Bs s A i f o) : f + o.length ≤ s.length := by
  have h2 := congrArg List.length h.rest
  rw [List.length_drop, List.length_append] at h2
  have := h.le
  omega
end
theorem Sd.len {t : Str} {A : List Str} {K : List Bool} {I : List Str} {L : List (Option Nat)} {i f : Nat} {x : Str} (h : Sd t A K I L i f x) : f + x.length ≤ t.length := by
  have h2 := congrArg List.length h.rest
  rw [List.length_drop, List.length_append] at h2
  have := h.le
  omega
theorem sd_start (s t : Str) : Sd t (lns s) (sdK (edits (lns s) (lns t))) (sdI (edits (lns s) (lns t))) (plcs 0 (edits (lns s) (lns t))) 0 0 [] :=
  ⟨Nat.zero_le _, by
    rw [List.drop_zero, List.drop_zero, List.drop_zero, List.drop_zero, List.nil_append]
    exact (sfx_edits s t).symm, by
    have h := plcs_eq (edits (lns s) (lns t)) 0
    rw [(edits_A _ _).1] at h
    rw [List.drop_zero, List.drop_zero, List.drop_zero, List.drop_zero]
    exact h⟩
theorem bs_start (s : Str) : Bs s (lns s) 0 0 [] := ⟨Nat.zero_le _, by rw [List.drop_zero, List.drop_zero, lns_flat]; rfl⟩
end Go.Proofs.Ytakddciegnkpdaa
