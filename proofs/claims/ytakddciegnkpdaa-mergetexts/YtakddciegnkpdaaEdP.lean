/- Plain: the most that two rows have in common, in order; the edits of two texts' lines. -/
import Derived.Test.YtakddciegnkpdaaDfP
namespace Go.Proofs.Ytakddciegnkpdaa
set_option linter.unusedVariables false
set_option linter.unusedSimpArgs false
section
variable {α : Type} [DecidableEq α]
def lcsRow (x : α) (f : List α → Nat) : List α → Nat
  | [] => 0
  | y :: ys => if x = y then f ys + 1 else max (f (y :: ys)) (lcsRow x f ys)
/-- How many both have in common, in the same order, at most. -/
def lcs : List α → List α → Nat
  | [] => fun _ => 0
  | x :: xs => lcsRow x (lcs xs)
theorem lcs_nil (ys : List α) : lcs [] ys = 0 := rfl
theorem lcs_nil' (xs : List α) : lcs xs [] = 0 := by cases xs <;> rfl
theorem lcs_cons (x : α) (xs : List α) (y : α) (ys : List α) : lcs (x :: xs) (y :: ys) = if x = y then lcs xs ys + 1 else max (lcs xs (y :: ys)) (lcs (x :: xs) ys) := rfl
theorem lcs_le : ∀ (xs ys : List α), lcs xs ys ≤ xs.length
  | [], ys => Nat.le_refl _
  | x :: xs, [] => by rw [lcs_nil']; exact Nat.zero_le _
  | x :: xs, y :: ys => by
    have h1 := lcs_le xs ys
    have h2 := lcs_le xs (y :: ys)
    have h3 := lcs_le (x :: xs) ys
    rw [lcs_cons]
    simp only [List.length_cons] at *
    split <;> omega
end
theorem lcs_map {α β : Type} [DecidableEq α] [DecidableEq β] (f : α → β) : ∀ (xs ys : List α), (∀ x ∈ xs, ∀ y ∈ ys, f x = f y → x = y) → lcs (xs.map f) (ys.map f) = lcs xs ys
  | [], ys, _ => rfl
  | x :: xs, [], _ => by rw [List.map_nil, lcs_nil', lcs_nil']
  | x :: xs, y :: ys, h => by
    have h1 := lcs_map f xs ys (fun a ha b hb => h a (List.mem_cons_of_mem _ ha) b (List.mem_cons_of_mem _ hb))
    have h2 := lcs_map f xs (y :: ys) (fun a ha b hb => h a (List.mem_cons_of_mem _ ha) b hb)
    have h3 := lcs_map f (x :: xs) ys (fun a ha b hb => h a ha b (List.mem_cons_of_mem _ hb))
    rw [List.map_cons] at h2 h3
    rw [List.map_cons, List.map_cons, lcs_cons, lcs_cons, h1, h2, h3]
    by_cases e : x = y
    · rw [if_pos e, if_pos (by rw [e])]
    · rw [if_neg e, if_neg (fun e2 => e (h x (by simp) y (by simp) e2))]
/-- An edit: its kind, the line. -/
abbrev Ed := Nat × Str
def edF : Nat → List Str → List Str → List Ed
  | 0, _, _ => []
  | _ + 1, [], [] => []
  | k + 1, x :: xs, [] => (1, x) :: edF k xs []
  | k + 1, [], y :: ys => (2, y) :: edF k [] ys
  | k + 1, x :: xs, y :: ys => if x = y then (0, x) :: edF k xs ys else if lcs (x :: xs) ys ≤ lcs xs (y :: ys) then (1, x) :: edF k xs (y :: ys) else (2, y) :: edF k (x :: xs) ys
theorem edF_ge : ∀ (k k' : Nat) (xs ys : List Str), xs.length + ys.length ≤ k → xs.length + ys.length ≤ k' → edF k xs ys = edF k' xs ys
  | 0, 0, _, _, _, _ => rfl
  | 0, k' + 1, [], [], _, _ => rfl
  | 0, k' + 1, x :: xs, ys, h, _ => by simp at h
  | 0, k' + 1, [], y :: ys, h, _ => by simp at h
  | k + 1, 0, [], [], _, _ => rfl
  | k + 1, 0, x :: xs, ys, _, h => by simp at h
  | k + 1, 0, [], y :: ys, _, h => by simp at h
  | k + 1, k' + 1, [], [], _, _ => rfl
  | k + 1, k' + 1, x :: xs, [], h1, h2 => by
    simp only [List.length_cons, List.length_nil] at h1 h2
    rw [edF, edF, edF_ge k k' xs [] (by simp; omega) (by simp; omega)]
  | k + 1, k' + 1, [], y :: ys, h1, h2 => by
    simp only [List.length_cons, List.length_nil] at h1 h2
    rw [edF, edF, edF_ge k k' [] ys (by simp; omega) (by simp; omega)]
  | k + 1, k' + 1, x :: xs, y :: ys, h1, h2 => by
    simp only [List.length_cons] at h1 h2
    rw [edF, edF, edF_ge k k' xs ys (by omega) (by omega), edF_ge k k' xs (y :: ys) (by simp; omega) (by simp; omega), edF_ge k k' (x :: xs) ys (by simp; omega) (by simp; omega)]
/-- How the one becomes the other. -/
def ed (xs ys : List Str) : List Ed := edF (xs.length + ys.length) xs ys
theorem ed_nil : ed [] [] = [] := rfl
theorem ed_end (x : Str) (xs : List Str) : ed (x :: xs) [] = (1, x) :: ed xs [] := rfl
theorem ed_start (y : Str) (ys : List Str) : ed [] (y :: ys) = (2, y) :: ed [] ys := by
  unfold ed
  simp only [List.length_nil, List.length_cons, Nat.zero_add]
  rfl
theorem ed_cons (x : Str) (xs : List Str) (y : Str) (ys : List Str) : ed (x :: xs) (y :: ys) = if x = y then (0, x) :: ed xs ys else if lcs (x :: xs) ys ≤ lcs xs (y :: ys) then (1, x) :: ed xs (y :: ys) else (2, y) :: ed (x :: xs) ys := by
  have h : (x :: xs).length + (y :: ys).length = (xs.length + ys.length + 1) + 1 := by simp; omega
  unfold ed
  rw [h, edF, edF_ge (xs.length + ys.length + 1) (xs.length + ys.length) xs ys (by omega) (by omega), edF_ge (xs.length + ys.length + 1) (xs.length + (y :: ys).length) xs (y :: ys) (by simp; omega) (by simp), edF_ge (xs.length + ys.length + 1) ((x :: xs).length + ys.length) (x :: xs) ys (by simp; omega) (by simp)]
theorem edF_len : ∀ (k : Nat) (xs ys : List Str), (edF k xs ys).length ≤ xs.length + ys.length
  | 0, _, _ => Nat.zero_le _
  | k + 1, [], [] => Nat.zero_le _
  | k + 1, x :: xs, [] => by have := edF_len k xs []; simp only [edF, List.length_cons, List.length_nil] at *; omega
  | k + 1, [], y :: ys => by have := edF_len k [] ys; simp only [edF, List.length_cons, List.length_nil] at *; omega
  | k + 1, x :: xs, y :: ys => by
    have h1 := edF_len k xs ys
    have h2 := edF_len k xs (y :: ys)
    have h3 := edF_len k (x :: xs) ys
    rw [edF]
    simp only [List.length_cons] at *
    split
    · simp only [List.length_cons]; omega
    · split <;> simp only [List.length_cons] <;> omega
theorem ed_len (xs ys : List Str) : (ed xs ys).length ≤ xs.length + ys.length := edF_len _ _ _
/-- With how many lines both begin. -/
def fr : List Str → List Str → Nat
  | x :: xs, y :: ys => if x = y then fr xs ys + 1 else 0
  | _, _ => 0
theorem fr_le : ∀ xs ys : List Str, fr xs ys ≤ xs.length ∧ fr xs ys ≤ ys.length
  | [], _ => by simp [fr]
  | _ :: _, [] => by simp [fr]
  | x :: xs, y :: ys => by
    have := fr_le xs ys
    rw [fr]
    split <;> simp <;> omega
theorem fr_nil (xs : List Str) : fr xs [] = 0 := by cases xs <;> rfl
theorem fr_nil' (ys : List Str) : fr [] ys = 0 := rfl
theorem ed_fr : ∀ xs ys : List Str, ed xs ys = (xs.take (fr xs ys)).map (fun x => (0, x)) ++ ed (xs.drop (fr xs ys)) (ys.drop (fr xs ys))
  | [], ys => by simp [fr]
  | x :: xs, [] => by simp [fr]
  | x :: xs, y :: ys => by
    by_cases e : x = y
    · have ih := ed_fr xs ys
      rw [fr, if_pos e, ed_cons, if_pos e, ih]
      simp
    · rw [fr, if_neg e]
      simp
/-- One line more at the front. -/
theorem fr_step (A B : List Str) (n : Nat) (hA : n < A.length) (hB : n < B.length) (h : fr A B = n + fr (A.drop n) (B.drop n)) (e : A.getD n [] = B.getD n []) : fr A B = (n + 1) + fr (A.drop (n + 1)) (B.drop (n + 1)) := by
  rw [h, List.drop_eq_getElem_cons hA, List.drop_eq_getElem_cons hB, fr]
  have e2 : A[n] = B[n] := by
    rw [List.getD_eq_getElem?_getD, List.getD_eq_getElem?_getD, List.getElem?_eq_getElem hA, List.getElem?_eq_getElem hB] at e
    simpa using e
  rw [if_pos e2]
  omega
theorem fr_stop (A B : List Str) (n : Nat) (hA : n < A.length) (hB : n < B.length) (h : fr A B = n + fr (A.drop n) (B.drop n)) (e : A.getD n [] ≠ B.getD n []) : fr A B = n := by
  rw [h, List.drop_eq_getElem_cons hA, List.drop_eq_getElem_cons hB, fr]
  have e2 : ¬ A[n] = B[n] := fun e3 => e (by
    rw [List.getD_eq_getElem?_getD, List.getD_eq_getElem?_getD, List.getElem?_eq_getElem hA, List.getElem?_eq_getElem hB]
    simpa using e3)
  rw [if_neg e2]
  rfl
theorem fr_end (A B : List Str) (n : Nat) (hn : A.length ≤ n ∨ B.length ≤ n) (h : fr A B = n + fr (A.drop n) (B.drop n)) : fr A B = n := by
  rw [h]
  rcases hn with h1 | h1
  · rw [List.drop_of_length_le h1, fr_nil']; rfl
  · rw [List.drop_of_length_le h1, fr_nil]; rfl
def mk (k : Nat) (l : List Str) : List Ed := l.map (fun x => (k, x))
/-- Edits of texts of many lines. -/
def edL (A B : List Str) : List Ed := mk 0 (A.take (fr A B)) ++ (mk 1 (A.drop (fr A B)) ++ mk 2 (B.drop (fr A B)))
theorem mk_len (k : Nat) (l : List Str) : (mk k l).length = l.length := by simp [mk]
theorem edL_len (A B : List Str) : (edL A B).length ≤ A.length + B.length := by
  have := fr_le A B
  unfold edL
  rw [List.length_append, List.length_append, mk_len, mk_len, mk_len, List.length_take, List.length_drop, List.length_drop]
  omega
/-- What 'Edits' answers of lines. -/
def edits (A B : List Str) : List Ed := if 2000 < A.length ∨ 2000 < B.length then edL A B else ed A B
theorem mk_snoc (k : Nat) (l : List Str) (i : Nat) (h : i < l.length) : mk k (l.take (i + 1)) = mk k (l.take i) ++ [(k, l.getD i [])] := by
  unfold mk
  rw [List.take_add_one, List.map_append, List.getElem?_eq_getElem h, List.getD_eq_getElem?_getD, List.getElem?_eq_getElem h]
  rfl
/-- The walk over both: what is next. -/
theorem ed_next_keep (A B : List Str) (i k : Nat) (hi : i < A.length) (hk : k < B.length) (e : A.getD i [] = B.getD k []) : ed (A.drop i) (B.drop k) = (0, A.getD i []) :: ed (A.drop (i + 1)) (B.drop (k + 1)) := by
  rw [List.getD_eq_getElem?_getD, List.getElem?_eq_getElem hi] at e ⊢
  rw [List.getD_eq_getElem?_getD, List.getElem?_eq_getElem hk] at e
  simp only [Option.getD_some] at e ⊢
  rw [List.drop_eq_getElem_cons hi, List.drop_eq_getElem_cons hk, ed_cons, if_pos e]
theorem ed_next_end (A B : List Str) (i k : Nat) (hi : i < A.length) (hk : B.length ≤ k) : ed (A.drop i) (B.drop k) = (1, A.getD i []) :: ed (A.drop (i + 1)) (B.drop k) := by
  rw [List.getD_eq_getElem?_getD, List.getElem?_eq_getElem hi, List.drop_of_length_le hk, List.drop_eq_getElem_cons hi, ed_end]
  rfl
theorem ed_next_start (A B : List Str) (i k : Nat) (hi : A.length ≤ i) (hk : k < B.length) : ed (A.drop i) (B.drop k) = (2, B.getD k []) :: ed (A.drop i) (B.drop (k + 1)) := by
  rw [List.getD_eq_getElem?_getD, List.getElem?_eq_getElem hk, List.drop_of_length_le hi, List.drop_eq_getElem_cons hk, ed_start]
  rfl
theorem ed_next_drop (A B : List Str) (i k : Nat) (hi : i < A.length) (hk : k < B.length) (e : A.getD i [] ≠ B.getD k []) (h : lcs (A.drop i) (B.drop (k + 1)) ≤ lcs (A.drop (i + 1)) (B.drop k)) : ed (A.drop i) (B.drop k) = (1, A.getD i []) :: ed (A.drop (i + 1)) (B.drop k) := by
  rw [List.getD_eq_getElem?_getD, List.getElem?_eq_getElem hi] at e ⊢
  rw [List.getD_eq_getElem?_getD, List.getElem?_eq_getElem hk] at e
  simp only [Option.getD_some] at e ⊢
  rw [List.drop_eq_getElem_cons hi, List.drop_eq_getElem_cons hk] at h ⊢
  rw [ed_cons, if_neg e, if_pos h]
theorem ed_next_insert (A B : List Str) (i k : Nat) (hi : i < A.length) (hk : k < B.length) (e : A.getD i [] ≠ B.getD k []) (h : ¬ lcs (A.drop i) (B.drop (k + 1)) ≤ lcs (A.drop (i + 1)) (B.drop k)) : ed (A.drop i) (B.drop k) = (2, B.getD k []) :: ed (A.drop i) (B.drop (k + 1)) := by
  rw [List.getD_eq_getElem?_getD, List.getElem?_eq_getElem hi] at e
  rw [List.getD_eq_getElem?_getD, List.getElem?_eq_getElem hk] at e ⊢
  simp only [Option.getD_some] at e ⊢
  rw [List.drop_eq_getElem_cons hi, List.drop_eq_getElem_cons hk] at h ⊢
  rw [ed_cons, if_neg e, if_neg h]
/-- A table's cell. -/
theorem lcs_eq {α : Type} [DecidableEq α] (d : α) (A B : List α) (i k : Nat) (hi : i < A.length) (hk : k < B.length) : lcs (A.drop i) (B.drop k) = if A.getD i d = B.getD k d then lcs (A.drop (i + 1)) (B.drop (k + 1)) + 1 else max (lcs (A.drop (i + 1)) (B.drop k)) (lcs (A.drop i) (B.drop (k + 1))) := by
  rw [List.getD_eq_getElem?_getD, List.getElem?_eq_getElem hi, List.getD_eq_getElem?_getD, List.getElem?_eq_getElem hk, List.drop_eq_getElem_cons hi, List.drop_eq_getElem_cons hk, lcs_cons]
  rfl
theorem lcs_out {α : Type} [DecidableEq α] (A B : List α) (i k : Nat) (h : A.length ≤ i ∨ B.length ≤ k) : lcs (A.drop i) (B.drop k) = 0 := by
  rcases h with h | h
  · rw [List.drop_of_length_le h, lcs_nil]
  · rw [List.drop_of_length_le h, lcs_nil']
end Go.Proofs.Ytakddciegnkpdaa
