/- Plain: three texts into one. -/
import Derived.Test.YtakddciegnkpdaaEdP
namespace Go.Proofs.Ytakddciegnkpdaa
set_option linter.unusedVariables false
set_option linter.unusedSimpArgs false
/-- Of each line of base: is it kept? -/
def sdK : List Ed → List Bool
  | [] => []
  | e :: r => if e.1 = 0 then true :: sdK r else if e.1 = 1 then false :: sdK r else sdK r
/-- What stands ahead of each line of base, and behind the last one. -/
def sdI : List Ed → List Str
  | [] => [[]]
  | e :: r => if e.1 = 0 then [] :: sdI r else if e.1 = 1 then [] :: sdI r else (e.2 ++ (sdI r).headD []) :: (sdI r).tail
/-- Lines of base. -/
def sdA : List Ed → List Str
  | [] => []
  | e :: r => if e.1 = 0 then e.2 :: sdA r else if e.1 = 1 then e.2 :: sdA r else sdA r
/-- Lines of the other. -/
def sdB : List Ed → List Str
  | [] => []
  | e :: r => if e.1 = 0 then e.2 :: sdB r else if e.1 = 1 then sdB r else e.2 :: sdB r
/-- Where each line of base begins in the other. -/
def plcs : Nat → List Ed → List (Option Nat)
  | _, [] => []
  | a, e :: r => if e.1 = 0 then some a :: plcs (a + e.2.length) r else if e.1 = 1 then none :: plcs a r else plcs (a + e.2.length) r
theorem sdI_ne (E : List Ed) : sdI E ≠ [] := by
  cases E with
  | nil => simp [sdI]
  | cons e r => unfold sdI; split <;> (try split) <;> simp
theorem sdI_hd (E : List Ed) : sdI E = (sdI E).headD [] :: (sdI E).tail := by
  have := sdI_ne E
  cases h : sdI E with
  | nil => exact absurd h this
  | cons a t => rfl
theorem sdK_len : ∀ E : List Ed, (sdK E).length = (sdA E).length
  | [] => rfl
  | e :: r => by
    have := sdK_len r
    unfold sdK sdA
    split
    · simp [this]
    · split <;> simp [this]
theorem sdI_len : ∀ E : List Ed, (sdI E).length = (sdA E).length + 1
  | [] => rfl
  | e :: r => by
    have := sdI_len r
    unfold sdI sdA
    split
    · simp [this]
    · split
      · simp [this]
      · simp only [List.length_cons, List.length_tail, this]; omega
theorem plcs_len : ∀ (E : List Ed) (a : Nat), (plcs a E).length = (sdA E).length
  | [], _ => rfl
  | e :: r, a => by
    unfold plcs sdA
    split
    · simp [plcs_len r]
    · split <;> simp [plcs_len r]
/-- What the other is made of. -/
def sfx : List Str → List Bool → List Str → Str
  | l :: A, k :: K, I => I.headD [] ++ ((if k then l else []) ++ sfx A K I.tail)
  | _, _, I => I.headD []
theorem sfx_ins (l : Str) (A : List Str) (K : List Bool) (i : Str) (I : List Str) : sfx A K ((l ++ i) :: I) = l ++ sfx A K (i :: I) := by
  cases A with
  | nil => simp [sfx]
  | cons x A => cases K with
    | nil => simp [sfx]
    | cons k K => simp [sfx]
theorem sfx_all : ∀ E : List Ed, sfx (sdA E) (sdK E) (sdI E) = (sdB E).flatten
  | [] => rfl
  | e :: r => by
    have ih := sfx_all r
    unfold sdA sdK sdI sdB
    split
    · simp [sfx, ih]
    · split
      · simp [sfx, ih]
      · rw [sfx_ins, ← sdI_hd, ih]; simp
/-- Where the lines begin, by what is kept. -/
def pl2 : Nat → List Str → List Bool → List Str → List (Option Nat)
  | a, l :: A, k :: K, I => (if k then some (a + (I.headD []).length) else none) :: pl2 (a + (I.headD []).length + (if k then l.length else 0)) A K I.tail
  | _, _, _, _ => []
theorem pl2_ins (a : Nat) (l : Str) (A : List Str) (K : List Bool) (i : Str) (I : List Str) : pl2 a A K ((l ++ i) :: I) = pl2 (a + l.length) A K (i :: I) := by
  cases A with
  | nil => simp [pl2]
  | cons x A => cases K with
    | nil => simp [pl2]
    | cons k K => simp [pl2, Nat.add_assoc]
theorem plcs_eq : ∀ (E : List Ed) (a : Nat), plcs a E = pl2 a (sdA E) (sdK E) (sdI E)
  | [], _ => rfl
  | e :: r, a => by
    unfold plcs sdA sdK sdI
    split
    · simp [pl2, plcs_eq r]
    · split
      · simp [pl2, plcs_eq r]
      · rw [pl2_ins, ← sdI_hd, plcs_eq r]
/-- Pieces: of base, ours, theirs. -/
abbrev Pc := Str × Str × Str
def pcs : List Str → List Bool → List Str → List Bool → List Str → Str → Str → Str → List Pc
  | l :: A, k :: K, I, k' :: K', I', o, x, y =>
    if k && k' then (o, x ++ I.headD [], y ++ I'.headD []) :: (l, l, l) :: pcs A K I.tail K' I'.tail [] [] []
    else pcs A K I.tail K' I'.tail (o ++ l) (x ++ I.headD [] ++ (if k then l else [])) (y ++ I'.headD [] ++ (if k' then l else []))
  | _, _, I, _, I', o, x, y => [(o, x ++ I.headD [], y ++ I'.headD [])]
def ended (s : Str) : Str := if s ≠ [] ∧ s.getLast? ≠ some 10 then s ++ [10] else s
def cfl (a b x y : Str) : Str := [60, 60, 60, 60, 60, 60, 60, 32] ++ a ++ [10] ++ ended x ++ [61, 61, 61, 61, 61, 61, 61, 10] ++ ended y ++ [62, 62, 62, 62, 62, 62, 62, 32] ++ b ++ [10]
/-- What becomes of a piece; is it in conflict? -/
def pc (a b : Str) (p : Pc) : Str × Nat :=
  if p.2.1 = p.2.2 ∨ p.2.2 = p.1 then (p.2.1, 0) else if p.2.1 = p.1 then (p.2.2, 0) else (cfl a b p.2.1 p.2.2, 1)
def txt (a b : Str) : List Pc → Str
  | [] => []
  | p :: l => (pc a b p).1 ++ txt a b l
def cnf : List Pc → Nat
  | [] => 0
  | p :: l => (pc [] [] p).2 + cnf l
theorem pc_n (a b : Str) (p : Pc) : (pc a b p).2 = (pc [] [] p).2 := by
  unfold pc
  split
  · rfl
  · split <;> rfl
def pieces (A : List Str) (E F : List Ed) : List Pc := pcs A (sdK E) (sdI E) (sdK F) (sdI F) [] [] []
theorem getD_cons {α : Type} (l : List α) (d : α) (i : Nat) (h : i < l.length) : l.drop i = l.getD i d :: l.drop (i + 1) := by
  rw [List.drop_eq_getElem_cons h, List.getD_eq_getElem?_getD, List.getElem?_eq_getElem h]; rfl
theorem headD_drop {α : Type} (l : List α) (d : α) (i : Nat) : (l.drop i).headD d = l.getD i d := by
  rw [List.headD_eq_head?_getD, List.head?_drop, List.getD_eq_getElem?_getD]
theorem tail_drop' {α : Type} (l : List α) (i : Nat) : (l.drop i).tail = l.drop (i + 1) := by rw [List.tail_drop]
theorem pcs_at (A : List Str) (K : List Bool) (I : List Str) (K' : List Bool) (I' : List Str) (i : Nat) (o x y : Str) (hA : i < A.length) (hK : K.length = A.length) (hK' : K'.length = A.length) :
    pcs (A.drop i) (K.drop i) (I.drop i) (K'.drop i) (I'.drop i) o x y =
      if K.getD i false && K'.getD i false then (o, x ++ I.getD i [], y ++ I'.getD i []) :: (A.getD i [], A.getD i [], A.getD i []) :: pcs (A.drop (i + 1)) (K.drop (i + 1)) (I.drop (i + 1)) (K'.drop (i + 1)) (I'.drop (i + 1)) [] [] []
      else pcs (A.drop (i + 1)) (K.drop (i + 1)) (I.drop (i + 1)) (K'.drop (i + 1)) (I'.drop (i + 1)) (o ++ A.getD i []) (x ++ I.getD i [] ++ (if K.getD i false then A.getD i [] else [])) (y ++ I'.getD i [] ++ (if K'.getD i false then A.getD i [] else [])) := by
  rw [getD_cons A [] i hA, getD_cons K false i (by omega), getD_cons K' false i (by omega), pcs, headD_drop, headD_drop, tail_drop', tail_drop']
theorem pcs_end (A : List Str) (K : List Bool) (I : List Str) (K' : List Bool) (I' : List Str) (i : Nat) (o x y : Str) (hA : A.length ≤ i) :
    pcs (A.drop i) (K.drop i) (I.drop i) (K'.drop i) (I'.drop i) o x y = [(o, x ++ I.getD i [], y ++ I'.getD i [])] := by
  rw [List.drop_of_length_le hA, pcs, headD_drop, headD_drop]
  intro l A' k K k' K' h
  cases h
theorem sfx_at (A : List Str) (K : List Bool) (I : List Str) (i : Nat) (hA : i < A.length) (hK : K.length = A.length) :
    sfx (A.drop i) (K.drop i) (I.drop i) = I.getD i [] ++ ((if K.getD i false then A.getD i [] else []) ++ sfx (A.drop (i + 1)) (K.drop (i + 1)) (I.drop (i + 1))) := by
  rw [getD_cons A [] i hA, getD_cons K false i (by omega), sfx, headD_drop, tail_drop']
theorem sfx_end (A : List Str) (K : List Bool) (I : List Str) (i : Nat) (hA : A.length ≤ i) : sfx (A.drop i) (K.drop i) (I.drop i) = I.getD i [] := by
  rw [List.drop_of_length_le hA, sfx, headD_drop]
  intro l A' k K h
  cases h
theorem pl2_at (a : Nat) (A : List Str) (K : List Bool) (I : List Str) (i : Nat) (hA : i < A.length) (hK : K.length = A.length) :
    pl2 a (A.drop i) (K.drop i) (I.drop i) = (if K.getD i false then some (a + (I.getD i []).length) else none) :: pl2 (a + (I.getD i []).length + (if K.getD i false then (A.getD i []).length else 0)) (A.drop (i + 1)) (K.drop (i + 1)) (I.drop (i + 1)) := by
  rw [getD_cons A [] i hA, getD_cons K false i (by omega), pl2, headD_drop, tail_drop']
theorem txt_snoc (a b : Str) (p : Pc) (l : List Pc) : txt a b (p :: l) = (pc a b p).1 ++ txt a b l := rfl
theorem pc_firm (a b l : Str) : pc a b (l, l, l) = (l, 0) := by simp [pc]
/-- Of edits: which lines they speak of. -/
theorem edF_A : ∀ (k : Nat) (xs ys : List Str), xs.length + ys.length ≤ k → sdA (edF k xs ys) = xs ∧ sdB (edF k xs ys) = ys
  | 0, [], [], _ => ⟨rfl, rfl⟩
  | 0, x :: xs, ys, h => by simp at h
  | 0, [], y :: ys, h => by simp at h
  | k + 1, [], [], _ => ⟨rfl, rfl⟩
  | k + 1, x :: xs, [], h => by
    have ih := edF_A k xs [] (by simp at h ⊢; omega)
    simp [edF, sdA, sdB, ih]
  | k + 1, [], y :: ys, h => by
    have ih := edF_A k [] ys (by simp at h ⊢; omega)
    simp [edF, sdA, sdB, ih]
  | k + 1, x :: xs, y :: ys, h => by
    simp only [List.length_cons] at h
    have h1 := edF_A k xs ys (by omega)
    have h2 := edF_A k xs (y :: ys) (by simp; omega)
    have h3 := edF_A k (x :: xs) ys (by simp; omega)
    rw [edF]
    split
    · rename_i e; simp [sdA, sdB, h1, e]
    · split <;> simp [sdA, sdB, h2, h3]
theorem sdA_app : ∀ E F : List Ed, sdA (E ++ F) = sdA E ++ sdA F
  | [], _ => rfl
  | e :: r, F => by
    rw [List.cons_append, sdA, sdA, sdA_app r F]
    split
    · rfl
    · split <;> rfl
theorem sdB_app : ∀ E F : List Ed, sdB (E ++ F) = sdB E ++ sdB F
  | [], _ => rfl
  | e :: r, F => by
    rw [List.cons_append, sdB, sdB, sdB_app r F]
    split
    · rfl
    · split <;> rfl
theorem sdA_mk : ∀ (l : List Str), sdA (mk 0 l) = l ∧ sdA (mk 1 l) = l ∧ sdA (mk 2 l) = [] ∧ sdB (mk 0 l) = l ∧ sdB (mk 1 l) = [] ∧ sdB (mk 2 l) = l
  | [] => ⟨rfl, rfl, rfl, rfl, rfl, rfl⟩
  | x :: l => by
    have := sdA_mk l
    simp only [mk, List.map_cons] at this ⊢
    simp [sdA, sdB, this]
theorem fr_take : ∀ xs ys : List Str, xs.take (fr xs ys) = ys.take (fr xs ys)
  | [], _ => by simp [fr]
  | _ :: _, [] => by simp [fr]
  | x :: xs, y :: ys => by
    have := fr_take xs ys
    rw [fr]
    split
    · rename_i e; simp [this, e]
    · simp
theorem edits_A (A B : List Str) : sdA (edits A B) = A ∧ sdB (edits A B) = B := by
  unfold edits
  split
  · unfold edL
    simp only [sdA_app, sdB_app, sdA_mk]
    constructor
    · simp
    · rw [fr_take]; simp
  · exact edF_A _ A B (Nat.le_refl _)
theorem edF_kind : ∀ (k : Nat) (xs ys : List Str), ∀ e ∈ edF k xs ys, e.1 ≤ 2
  | 0, _, _, e, h => by simp [edF] at h
  | k + 1, [], [], e, h => by simp [edF] at h
  | k + 1, x :: xs, [], e, h => by
    rw [edF] at h
    rcases List.mem_cons.1 h with rfl | h
    · simp
    · exact edF_kind k _ _ e h
  | k + 1, [], y :: ys, e, h => by
    rw [edF] at h
    rcases List.mem_cons.1 h with rfl | h
    · simp
    · exact edF_kind k _ _ e h
  | k + 1, x :: xs, y :: ys, e, h => by
    rw [edF] at h
    split at h
    · rcases List.mem_cons.1 h with rfl | h
      · simp
      · exact edF_kind k _ _ e h
    · split at h
      · rcases List.mem_cons.1 h with rfl | h
        · simp
        · exact edF_kind k _ _ e h
      · rcases List.mem_cons.1 h with rfl | h
        · simp
        · exact edF_kind k _ _ e h
theorem edits_kind (A B : List Str) : ∀ e ∈ edits A B, e.1 ≤ 2 := by
  unfold edits
  split
  · intro e h
    unfold edL mk at h
    simp only [List.mem_append, List.mem_map] at h
    rcases h with ⟨x, _, rfl⟩ | ⟨x, _, rfl⟩ | ⟨x, _, rfl⟩ <;> simp
  · exact edF_kind _ A B
theorem lns_flat : ∀ s : Str, (lns s).flatten = s
  | [] => rfl
  | c :: r => by
    have ih := lns_flat r
    rw [lns]
    split
    · simp [ih]
    · cases h : lns r with
      | nil => rw [h] at ih; simp at ih; simp [ih]
      | cons l t => rw [h] at ih; simp only [List.flatten_cons] at ih ⊢; simp [ih]
/-- The other text, by its edits. -/
theorem sfx_edits (s t : Str) : sfx (lns s) (sdK (edits (lns s) (lns t))) (sdI (edits (lns s) (lns t))) = t := by
  have h := sfx_all (edits (lns s) (lns t))
  rw [(edits_A _ _).1, (edits_A _ _).2, lns_flat] at h
  exact h
/- Lengths. -/
theorem ended_len (s : Str) : (ended s).length ≤ s.length + 1 := by unfold ended; split <;> simp
theorem pc_len (a b : Str) (p : Pc) : (pc a b p).1.length ≤ p.2.1.length + p.2.2.length + a.length + b.length + 30 := by
  unfold pc
  split
  · simp only []; omega
  · split
    · simp only []; omega
    · unfold cfl
      have h1 := ended_len p.2.1
      have h2 := ended_len p.2.2
      simp only [List.length_append, List.length_cons, List.length_nil]
      omega
theorem mtxt_len (a b : Str) : ∀ l : List Pc, (txt a b l).length ≤ (l.map (fun p => p.2.1.length)).sum + (l.map (fun p => p.2.2.length)).sum + l.length * (a.length + b.length + 30)
  | [] => by simp [txt]
  | p :: l => by
    have h1 := mtxt_len a b l
    have h2 := pc_len a b p
    simp only [txt, List.length_append, List.map_cons, List.sum_cons, List.length_cons, Nat.add_mul]
    omega
theorem pcs_ours : ∀ (A : List Str) (K : List Bool) (I : List Str) (K' : List Bool) (I' : List Str) (o x y : Str), K.length = A.length → K'.length = A.length →
    ((pcs A K I K' I' o x y).map (fun p => p.2.1)).flatten = x ++ sfx A K I ∧ ((pcs A K I K' I' o x y).map (fun p => p.2.2)).flatten = y ++ sfx A K' I' ∧ (pcs A K I K' I' o x y).length ≤ 2 * A.length + 1
  | [], K, I, K', I', o, x, y, h1, h2 => by
    cases K with
    | nil => cases K' with
      | nil => simp [pcs, sfx]
      | cons k' K' => simp at h2
    | cons k K => simp at h1
  | l :: A, [], I, K', I', o, x, y, h1, h2 => by simp at h1
  | l :: A, k :: K, I, [], I', o, x, y, h1, h2 => by simp at h2
  | l :: A, k :: K, I, k' :: K', I', o, x, y, h1, h2 => by
    simp only [List.length_cons, Nat.add_right_cancel_iff] at h1 h2
    rw [pcs]
    cases k <;> cases k'
    · have ih := pcs_ours A K I.tail K' I'.tail (o ++ l) (x ++ I.headD [] ++ []) (y ++ I'.headD [] ++ []) h1 h2
      simp only [Bool.and_false, Bool.false_eq_true, if_false, Bool.false_and]
      refine ⟨?_, ?_, ?_⟩
      · rw [ih.1]; simp [sfx]
      · rw [ih.2.1]; simp [sfx]
      · have := ih.2.2; simp only [List.length_cons]; omega
    · have ih := pcs_ours A K I.tail K' I'.tail (o ++ l) (x ++ I.headD [] ++ []) (y ++ I'.headD [] ++ l) h1 h2
      simp only [Bool.and_true, Bool.false_eq_true, if_false, if_true]
      refine ⟨?_, ?_, ?_⟩
      · rw [ih.1]; simp [sfx]
      · rw [ih.2.1]; simp [sfx]
      · have := ih.2.2; simp only [List.length_cons]; omega
    · have ih := pcs_ours A K I.tail K' I'.tail (o ++ l) (x ++ I.headD [] ++ l) (y ++ I'.headD [] ++ []) h1 h2
      simp only [Bool.and_false, Bool.false_eq_true, if_false, if_true]
      refine ⟨?_, ?_, ?_⟩
      · rw [ih.1]; simp [sfx]
      · rw [ih.2.1]; simp [sfx]
      · have := ih.2.2; simp only [List.length_cons]; omega
    · have ih := pcs_ours A K I.tail K' I'.tail [] [] [] h1 h2
      simp only [Bool.and_true, if_true]
      refine ⟨?_, ?_, ?_⟩
      · simp only [List.map_cons, List.flatten_cons]; rw [ih.1]; simp [sfx]
      · simp only [List.map_cons, List.flatten_cons]; rw [ih.2.1]; simp [sfx]
      · have := ih.2.2; simp only [List.length_cons]; omega
theorem sum_flat (l : List Str) : (l.map List.length).sum = l.flatten.length := by simp [List.length_flatten]
/-- What the merge of three texts is. -/
def mtx (a b s t u : Str) : Str := txt a b (pieces (lns s) (edits (lns s) (lns t)) (edits (lns s) (lns u)))
def mcn (s t u : Str) : Nat := cnf (pieces (lns s) (edits (lns s) (lns t)) (edits (lns s) (lns u)))
theorem pieces_all (s t u : Str) : ((pieces (lns s) (edits (lns s) (lns t)) (edits (lns s) (lns u))).map (fun p => p.2.1)).flatten = t ∧ ((pieces (lns s) (edits (lns s) (lns t)) (edits (lns s) (lns u))).map (fun p => p.2.2)).flatten = u ∧ (pieces (lns s) (edits (lns s) (lns t)) (edits (lns s) (lns u))).length ≤ 2 * (lns s).length + 1 := by
  have h := pcs_ours (lns s) (sdK (edits (lns s) (lns t))) (sdI (edits (lns s) (lns t))) (sdK (edits (lns s) (lns u))) (sdI (edits (lns s) (lns u))) [] [] [] (by rw [sdK_len, (edits_A _ _).1]) (by rw [sdK_len, (edits_A _ _).1])
  rw [sfx_edits, sfx_edits] at h
  exact h
theorem mtx_len (a b s t u : Str) (hs : s.length ≤ 3000) (ht : t.length ≤ 3000) (hu : u.length ≤ 3000) (hab : a.length + b.length ≤ 3000) : (mtx a b s t u).length ≤ 20000000 := by
  obtain ⟨h1, h2, h3⟩ := pieces_all s t u
  have h4 := mtxt_len a b (pieces (lns s) (edits (lns s) (lns t)) (edits (lns s) (lns u)))
  have h5 := sum_flat ((pieces (lns s) (edits (lns s) (lns t)) (edits (lns s) (lns u))).map (fun p => p.2.1))
  have h6 := sum_flat ((pieces (lns s) (edits (lns s) (lns t)) (edits (lns s) (lns u))).map (fun p => p.2.2))
  rw [h1, List.map_map] at h5
  rw [h2, List.map_map] at h6
  have h7 := lns_few s
  have e1 : ((pieces (lns s) (edits (lns s) (lns t)) (edits (lns s) (lns u))).map (fun p => p.2.1.length)).sum = t.length := h5
  have e2 : ((pieces (lns s) (edits (lns s) (lns t)) (edits (lns s) (lns u))).map (fun p => p.2.2.length)).sum = u.length := h6
  rw [e1, e2] at h4
  have h8 : (pieces (lns s) (edits (lns s) (lns t)) (edits (lns s) (lns u))).length * (a.length + b.length + 30) ≤ 6001 * 3030 := Nat.mul_le_mul (by omega) (by omega)
  unfold mtx
  omega
theorem pc_one (p : Pc) : (pc [] [] p).2 ≤ 1 := by
  unfold pc
  split
  · simp
  · split <;> simp
theorem cnf_len : ∀ l : List Pc, cnf l ≤ l.length
  | [] => Nat.le_refl _
  | p :: l => by
    have := cnf_len l
    have := pc_one p
    simp only [cnf, List.length_cons]
    omega
theorem mcn_le (s t u : Str) (hs : s.length ≤ 3000) : mcn s t u ≤ 6001 := by
  obtain ⟨h1, h2, h3⟩ := pieces_all s t u
  have := cnf_len (pieces (lns s) (edits (lns s) (lns t)) (edits (lns s) (lns u)))
  have := lns_few s
  unfold mcn
  omega
end Go.Proofs.Ytakddciegnkpdaa
