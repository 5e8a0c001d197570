/- Plain: merging commutes; a side that changed nothing. -/
import Derived.Test.YtakddciegnkpdaaMgP
namespace Go.Proofs.Ytakddciegnkpdaa
set_option linter.unusedVariables false
set_option linter.unusedSimpArgs false
def flip3 (p : Pc) : Pc := (p.1, p.2.2, p.2.1)
theorem pcs_flip : ∀ (A : List Str) (K : List Bool) (I : List Str) (K' : List Bool) (I' : List Str) (o x y : Str), K.length = A.length → K'.length = A.length →
    pcs A K' I' K I o y x = (pcs A K I K' I' o x y).map flip3
  | [], K, I, K', I', o, x, y, h1, h2 => by
    cases K with
    | nil => cases K' with
      | nil => simp [pcs, flip3]
      | cons k' K' => simp at h2
    | cons k K => simp at h1
  | l :: A, [], I, K', I', o, x, y, h1, h2 => by simp at h1
  | l :: A, k :: K, I, [], I', o, x, y, h1, h2 => by simp at h2
  | l :: A, k :: K, I, k' :: K', I', o, x, y, h1, h2 => by
    simp only [List.length_cons, Nat.add_right_cancel_iff] at h1 h2
    rw [pcs, pcs, Bool.and_comm]
    split
    · rw [pcs_flip A K I.tail K' I'.tail [] [] [] h1 h2]; rfl
    · exact pcs_flip A K I.tail K' I'.tail _ _ _ h1 h2
theorem pieces_flip (s t u : Str) : pieces (lns s) (edits (lns s) (lns u)) (edits (lns s) (lns t)) = (pieces (lns s) (edits (lns s) (lns t)) (edits (lns s) (lns u))).map flip3 :=
  pcs_flip _ _ _ _ _ _ _ _ (by rw [sdK_len, (edits_A _ _).1]) (by rw [sdK_len, (edits_A _ _).1])
theorem pc_a (a b o x y : Str) (h : x = y ∨ y = o) : pc a b (o, x, y) = (x, 0) := if_pos h
theorem pc_b (a b o x y : Str) (h : ¬ (x = y ∨ y = o)) (h2 : x = o) : pc a b (o, x, y) = (y, 0) := (if_neg h).trans (if_pos h2)
theorem pc_c (a b o x y : Str) (h : ¬ (x = y ∨ y = o)) (h2 : ¬ x = o) : pc a b (o, x, y) = (cfl a b x y, 1) := (if_neg h).trans (if_neg h2)
theorem pc_flip : ∀ (p : Pc), (pc [] [] (flip3 p)).2 = (pc [] [] p).2 := by
  rintro ⟨o, x, y⟩
  show (pc [] [] (o, y, x)).2 = (pc [] [] (o, x, y)).2
  by_cases h1 : x = y
  · rw [h1]
  · have h1' : ¬ y = x := fun e => h1 e.symm
    by_cases h2 : y = o
    · by_cases h3 : x = o
      · exact absurd (h3.trans h2.symm) h1
      · rw [pc_b _ _ _ _ _ (fun h => h.elim h1' h3) h2, pc_a _ _ _ _ _ (.inr h2)]
    · by_cases h3 : x = o
      · rw [pc_a _ _ _ _ _ (.inr h3), pc_b _ _ _ _ _ (fun h => h.elim h1 h2) h3]
      · rw [pc_c _ _ _ _ _ (fun h => h.elim h1' h3) h2, pc_c _ _ _ _ _ (fun h => h.elim h1 h2) h3]
theorem pc_flip_txt (a b c d : Str) : ∀ (p : Pc) (h : (pc [] [] p).2 = 0), (pc a b (flip3 p)).1 = (pc c d p).1 := by
  rintro ⟨o, x, y⟩ h
  show (pc a b (o, y, x)).1 = (pc c d (o, x, y)).1
  by_cases h1 : x = y
  · rw [h1, pc_a _ _ _ _ _ (.inl rfl), pc_a _ _ _ _ _ (.inl rfl)]
  · have h1' : ¬ y = x := fun e => h1 e.symm
    by_cases h2 : y = o
    · by_cases h3 : x = o
      · exact absurd (h3.trans h2.symm) h1
      · rw [pc_b _ _ _ _ _ (fun h => h.elim h1' h3) h2, pc_a _ _ _ _ _ (.inr h2)]
    · by_cases h3 : x = o
      · rw [pc_a _ _ _ _ _ (.inr h3), pc_b _ _ _ _ _ (fun h => h.elim h1 h2) h3]
      · rw [pc_c _ _ _ _ _ (fun h => h.elim h1 h2) h3] at h
        cases h
theorem cnf_flip : ∀ l : List Pc, cnf (l.map flip3) = cnf l
  | [] => rfl
  | p :: l => by rw [List.map_cons, cnf, cnf, pc_flip, cnf_flip l]
theorem txt_flip (a b c d : Str) : ∀ l : List Pc, cnf l = 0 → txt a b (l.map flip3) = txt c d l
  | [], _ => rfl
  | p :: l, h => by
    rw [cnf] at h
    rw [List.map_cons, txt, txt, pc_flip_txt a b c d p (by omega), txt_flip a b c d l (by omega)]
theorem mcn_flip (s t u : Str) : mcn s u t = mcn s t u := by
  unfold mcn
  rw [pieces_flip, cnf_flip]
theorem mtx_flip (a b c d s t u : Str) (h : mcn s t u = 0) : mtx a b s u t = mtx c d s t u := by
  unfold mtx
  rw [pieces_flip]
  exact txt_flip a b c d _ h
/- A side that changed nothing. -/
theorem txt_ours (a b : Str) : ∀ l : List Pc, (∀ p ∈ l, p.2.1 = p.2.2 ∨ p.2.2 = p.1) → txt a b l = (l.map (fun p => p.2.1)).flatten ∧ cnf l = 0
  | [], _ => ⟨rfl, rfl⟩
  | p :: l, h => by
    have ih := txt_ours a b l (fun q hq => h q (List.mem_cons_of_mem _ hq))
    have h0 := h p (by simp)
    refine ⟨?_, ?_⟩
    · rw [txt, ih.1, pc, if_pos h0]; rfl
    · rw [cnf, ih.2, pc, if_pos h0]
theorem txt_theirs (a b : Str) : ∀ l : List Pc, (∀ p ∈ l, p.2.1 = p.1) → txt a b l = (l.map (fun p => p.2.2)).flatten ∧ cnf l = 0
  | [], _ => ⟨rfl, rfl⟩
  | p :: l, h => by
    have ih := txt_theirs a b l (fun q hq => h q (List.mem_cons_of_mem _ hq))
    have h0 := h p (by simp)
    have e1 : ∀ a b, pc a b p = (p.2.2, 0) := by
      intro a b
      unfold pc
      by_cases h1 : p.2.1 = p.2.2 ∨ p.2.2 = p.1
      · rw [if_pos h1]
        rcases h1 with h1 | h1
        · rw [h1]
        · rw [h1, h0]
      · rw [if_neg h1, if_pos h0]
    refine ⟨?_, ?_⟩
    · rw [txt, ih.1, e1]; rfl
    · rw [cnf, ih.2, e1]
theorem pcs_same : ∀ (A : List Str) (K : List Bool) (I : List Str) (o x : Str), ∀ p ∈ pcs A K I K I o x x, p.2.1 = p.2.2
  | [], K, I, o, x, p, h => by
    rw [pcs] at h
    · rw [List.mem_singleton.1 h]
    · intro l A' k K k' K' h; cases h
  | l :: A, [], I, o, x, p, h => by
    rw [pcs] at h
    · rw [List.mem_singleton.1 h]
    · intro l A' k K k' K' h e; cases e
  | l :: A, k :: K, I, o, x, p, h => by
    rw [pcs] at h
    split at h
    · rcases List.mem_cons.1 h with rfl | h
      · rfl
      · rcases List.mem_cons.1 h with rfl | h
        · rfl
        · exact pcs_same A K I.tail [] [] p h
    · exact pcs_same A K I.tail _ _ p h
theorem ed_self : ∀ A : List Str, ed A A = mk 0 A
  | [] => rfl
  | x :: A => by rw [ed_cons, if_pos rfl, ed_self A]; rfl
theorem fr_self : ∀ A : List Str, fr A A = A.length
  | [] => rfl
  | x :: A => by rw [fr, if_pos rfl, fr_self A]; rfl
theorem edits_self (A : List Str) : edits A A = mk 0 A := by
  unfold edits
  split
  · unfold edL
    rw [fr_self]
    simp [mk]
  · exact ed_self A
theorem side_self : ∀ A : List Str, sdK (mk 0 A) = A.map (fun _ => true) ∧ sdI (mk 0 A) = A.map (fun _ => []) ++ [[]]
  | [] => ⟨rfl, rfl⟩
  | x :: A => by
    have ih := side_self A
    simp only [mk, List.map_cons] at ih ⊢
    rw [sdK, sdI, if_pos rfl, if_pos rfl, ih.1, ih.2]
    exact ⟨rfl, rfl⟩
theorem pcs_base : ∀ (A : List Str) (K : List Bool) (I : List Str) (o x : Str), K.length = A.length → ∀ p ∈ pcs A K I (A.map (fun _ => true)) (A.map (fun _ => []) ++ [[]]) o x o, p.2.2 = p.1
  | [], K, I, o, x, hl, p, h => by
    rw [pcs] at h
    · rw [List.mem_singleton.1 h]; simp
    · intro l A' k K k' K' h; cases h
  | l :: A, [], I, o, x, hl, p, h => by simp at hl
  | l :: A, k :: K, I, o, x, hl, p, h => by
    simp only [List.length_cons, Nat.add_right_cancel_iff] at hl
    simp only [List.map_cons, List.cons_append] at h
    rw [pcs] at h
    simp only [List.headD_cons, List.tail_cons, List.append_nil, if_true] at h
    split at h
    · rcases List.mem_cons.1 h with rfl | h
      · rfl
      · rcases List.mem_cons.1 h with rfl | h
        · rfl
        · exact pcs_base A K I.tail [] [] hl p h
    · exact pcs_base A K I.tail _ _ hl p h
theorem merge_ours (a b s t : Str) : mtx a b s t s = t ∧ mcn s t s = 0 := by
  have h := txt_ours a b (pieces (lns s) (edits (lns s) (lns t)) (edits (lns s) (lns s))) (fun p hp => by
    right
    unfold pieces at hp
    rw [edits_self, (side_self _).1, (side_self _).2] at hp
    exact pcs_base _ _ _ _ _ (by rw [sdK_len, (edits_A _ _).1]) p hp)
  rw [(pieces_all s t s).1] at h
  exact h
theorem merge_theirs (a b s t : Str) : mtx a b s s t = t ∧ mcn s s t = 0 := by
  have h := txt_theirs a b (pieces (lns s) (edits (lns s) (lns s)) (edits (lns s) (lns t))) (fun p hp => by
    rw [pieces_flip] at hp
    obtain ⟨q, hq, rfl⟩ := List.mem_map.1 hp
    unfold pieces at hq
    rw [edits_self, (side_self _).1, (side_self _).2] at hq
    exact pcs_base _ _ _ _ _ (by rw [sdK_len, (edits_A _ _).1]) q hq)
  rw [(pieces_all s s t).2.1] at h
  exact h
theorem merge_both (a b s t : Str) : mtx a b s t t = t ∧ mcn s t t = 0 := by
  have h := txt_ours a b (pieces (lns s) (edits (lns s) (lns t)) (edits (lns s) (lns t))) (fun p hp => .inl (pcs_same _ _ _ _ _ p hp))
  rw [(pieces_all s t t).1] at h
  exact h
end Go.Proofs.Ytakddciegnkpdaa
