/- Plain: the lines of a text; what two rows have in common, with its weight. -/
import Derived.Lib.Bytealg
import Derived.Lib.IndexLaws
namespace Go.Proofs.Ytakddciegnkpdaa
set_option linter.unusedVariables false
set_option linter.unusedSimpArgs false
abbrev Str := List UInt8
/-- The lines of a text, each with its end. -/
def lns : Str → List Str
  | [] => []
  | c :: r => if c = 10 then [c] :: lns r else match lns r with
    | [] => [[c]]
    | l :: t => (c :: l) :: t
theorem lns_nil : lns [] = [] := rfl
theorem lns_nl : ∀ (p r : Str), (10 : UInt8) ∉ p → lns (p ++ 10 :: r) = (p ++ [10]) :: lns r
  | [], r, h => by simp [lns]
  | c :: p, r, h => by
    have hc : c ≠ 10 := fun e => h (by simp [e])
    have ih := lns_nl p r (fun e => h (by simp [e]))
    simp only [List.cons_append, lns, hc, if_false, ih]
theorem lns_last : ∀ (p : Str), p ≠ [] → (10 : UInt8) ∉ p → lns p = [p]
  | [], h, _ => absurd rfl h
  | [c], _, h => by
    have hc : c ≠ 10 := fun e => h (by simp [e])
    simp [lns, hc]
  | c :: d :: p, _, h => by
    have hc : c ≠ 10 := fun e => h (by simp [e])
    have ih := lns_last (d :: p) (by simp) (fun e => h (List.mem_cons_of_mem _ e))
    rw [lns, if_neg hc, ih]
theorem lns_len : ∀ s : Str, ((lns s).map List.length).sum = s.length
  | [] => rfl
  | c :: r => by
    have ih := lns_len r
    rw [lns]
    split
    · simp only [List.map_cons, List.sum_cons, ih, List.length_cons, List.length_nil]; omega
    · cases hr : lns r with
      | nil => rw [hr] at ih; simp only [List.map_nil, List.sum_nil, List.map_cons, List.sum_cons, List.length_cons, List.length_nil] at ih ⊢; omega
      | cons l t => rw [hr] at ih; simp only [List.map_cons, List.sum_cons, List.length_cons] at ih ⊢; omega
theorem lns_ne : ∀ (s : Str), ∀ l ∈ lns s, 0 < l.length
  | [], l, h => by simp [lns] at h
  | c :: r, l, h => by
    have ih := lns_ne r
    rw [lns] at h
    split at h
    · rcases List.mem_cons.1 h with rfl | h
      · simp
      · exact ih l h
    · cases hr : lns r with
      | nil => rw [hr] at h; simp at h; simp [h]
      | cons m t =>
        rw [hr] at h ih
        rcases List.mem_cons.1 h with rfl | h
        · simp
        · exact ih l (List.mem_cons_of_mem _ h)
theorem sum_few : ∀ (l : List Nat), (∀ x ∈ l, 0 < x) → l.length ≤ l.sum
  | [], _ => Nat.le_refl _
  | x :: l, h => by
    have ih := sum_few l (fun y hy => h y (List.mem_cons_of_mem _ hy))
    have := h x (by simp)
    simp only [List.length_cons, List.sum_cons]; omega
theorem lns_few (s : Str) : (lns s).length ≤ s.length := by
  have := sum_few ((lns s).map List.length) (by intro x hx; obtain ⟨l, hl, rfl⟩ := List.mem_map.1 hx; exact lns_ne s l hl)
  rw [lns_len] at this
  simpa using this
theorem mem_sum : ∀ (l : List Nat) (x : Nat), x ∈ l → x ≤ l.sum
  | y :: l, x, h => by
    rcases List.mem_cons.1 h with rfl | h
    · simp only [List.sum_cons]; omega
    · have := mem_sum l x h
      simp only [List.sum_cons]; omega
theorem lns_short (s l : Str) (h : l ∈ lns s) : l.length ≤ s.length := by
  have := mem_sum _ _ (List.mem_map_of_mem (f := List.length) h)
  rwa [lns_len] at this
/-- Where the first end of a line is. -/
theorem lns_some (s : Str) (i : Nat) (h : Lib.indexByte s 10 = (i : Int)) : i < s.length ∧ lns s = s.take (i + 1) :: lns (s.drop (i + 1)) := by
  obtain ⟨h1, h2⟩ := Lib.indexByte_some h
  have hl := (List.getElem?_eq_some_iff.1 h1).1
  have hi := (List.getElem?_eq_some_iff.1 h1).2
  refine ⟨hl, ?_⟩
  have e : s = s.take i ++ 10 :: s.drop (i + 1) := by
    rw [← hi, List.getElem_cons_drop, List.take_append_drop]
  have hp : (10 : UInt8) ∉ s.take i := by
    intro hm
    obtain ⟨k, hk⟩ := List.mem_iff_getElem?.1 hm
    rw [List.getElem?_take] at hk
    split at hk
    · exact h2 k (by assumption) hk
    · cases hk
  have := lns_nl _ (s.drop (i + 1)) hp
  rw [← e] at this
  rw [this]
  congr 1
  rw [List.take_add_one, h1]; rfl
theorem lns_none (s : Str) (h : Lib.indexByte s 10 = -1) (h0 : s ≠ []) : lns s = [s] := by
  refine lns_last s h0 ?_
  intro hm
  obtain ⟨k, hk⟩ := List.mem_iff_getElem?.1 hm
  exact Lib.indexByte_none h k hk
section
variable {α : Type} [DecidableEq α] (wt : α → Nat)
/-- What both rows have, each as often as both have it: its weight. -/
def com : List α → List α → Nat
  | [], _ => 0
  | x :: xs, ys => if x ∈ ys then wt x + com xs (ys.erase x) else com xs ys
theorem com_nil (xs : List α) : com wt xs [] = 0 := by
  induction xs with
  | nil => rfl
  | cons x xs ih => simp [com, ih]
theorem com_perm_right : ∀ (xs : List α) {ys zs : List α}, ys.Perm zs → com wt xs ys = com wt xs zs
  | [], _, _, _ => rfl
  | x :: xs, ys, zs, h => by
    simp only [com, h.mem_iff, com_perm_right xs h, com_perm_right xs (h.erase x)]
theorem com_swap (x y : α) (l ys : List α) : com wt (x :: y :: l) ys = com wt (y :: x :: l) ys := by
  by_cases e : x = y
  · rw [e]
  · simp only [com, List.mem_erase_of_ne e, List.mem_erase_of_ne (Ne.symm e)]
    by_cases h1 : x ∈ ys <;> by_cases h2 : y ∈ ys <;> simp only [h1, h2, if_true, if_false]
    rw [List.erase_comm]; omega
theorem com_perm_left {xs zs : List α} (h : xs.Perm zs) : ∀ ys : List α, com wt xs ys = com wt zs ys := by
  induction h with
  | nil => intro ys; rfl
  | cons x _ ih => intro ys; simp only [com, ih]
  | swap x y l => intro ys; exact com_swap wt y x l ys
  | trans _ _ h1 h2 => intro ys; rw [h1, h2]
theorem com_skip : ∀ (xs ys : List α) (y : α), y ∉ xs → com wt xs (y :: ys) = com wt xs ys
  | [], _, _, _ => rfl
  | x :: xs, ys, y, h => by
    have hxy : x ≠ y := fun e => h (by simp [e])
    have h' : y ∉ xs := fun e => h (by simp [e])
    simp only [com, List.mem_cons, hxy, false_or]
    rw [List.erase_cons_tail (by simpa using Ne.symm hxy), com_skip xs _ y h', com_skip xs _ y h']
theorem com_miss (x : α) (xs ys : List α) (h : x ∉ ys) : com wt (x :: xs) ys = com wt xs ys := by simp [com, h]
theorem com_both (x : α) (xs ys : List α) : com wt (x :: xs) (x :: ys) = wt x + com wt xs ys := by simp [com]
theorem com_symm : ∀ xs ys : List α, com wt xs ys = com wt ys xs
  | [], ys => (com_nil wt ys).symm
  | x :: xs, ys => by
    by_cases h : x ∈ ys
    · rw [com_perm_left wt (List.perm_cons_erase h) (x :: xs), com_both, com, if_pos h, com_symm xs]
    · rw [com_miss wt x xs ys h, com_skip wt ys xs x h, com_symm xs]
theorem com_self : ∀ xs : List α, com wt xs xs = (xs.map wt).sum
  | [] => rfl
  | x :: xs => by rw [com_both, com_self xs]; simp
theorem com_le : ∀ xs ys : List α, com wt xs ys ≤ (xs.map wt).sum
  | [], _ => Nat.le_refl _
  | x :: xs, ys => by
    simp only [com, List.map_cons, List.sum_cons]
    split
    · have := com_le xs (ys.erase x); omega
    · have := com_le xs ys; omega
end
theorem erase_map {α β : Type} [DecidableEq α] [DecidableEq β] (f : α → β) (x : α) : ∀ ys : List α, (∀ y ∈ ys, f x = f y → x = y) → (ys.map f).erase (f x) = (ys.erase x).map f
  | [], _ => rfl
  | y :: ys, h => by
    by_cases e : x = y
    · subst e; simp
    · have hf : f x ≠ f y := fun e' => e (h y (by simp) e')
      rw [List.map_cons, List.erase_cons_tail (by simpa using Ne.symm hf), List.erase_cons_tail (by simpa using Ne.symm e), List.map_cons, erase_map f x ys (fun z hz => h z (List.mem_cons_of_mem _ hz))]
theorem com_map {α β : Type} [DecidableEq α] [DecidableEq β] (wa : α → Nat) (wb : β → Nat) (f : α → β) (hw : ∀ x, wb (f x) = wa x) : ∀ xs ys : List α, (∀ x ∈ xs, ∀ y ∈ ys, f x = f y → x = y) → com wb (xs.map f) (ys.map f) = com wa xs ys
  | [], ys, _ => rfl
  | x :: xs, ys, h => by
    have hm : f x ∈ ys.map f ↔ x ∈ ys := by
      constructor
      · intro hm
        obtain ⟨y, hy, e⟩ := List.mem_map.1 hm
        rw [h x (by simp) y hy e.symm]; exact hy
      · exact fun hm => List.mem_map_of_mem hm
    rw [List.map_cons, com, com]
    by_cases hx : x ∈ ys
    · rw [if_pos (hm.2 hx), if_pos hx, hw, erase_map f x ys (h x (by simp)), com_map wa wb f hw xs (ys.erase x) (fun a ha b hb => h a (List.mem_cons_of_mem _ ha) b (List.mem_of_mem_erase hb))]
    · rw [if_neg (fun e => hx (hm.1 e)), if_neg hx, com_map wa wb f hw xs ys (fun a ha b hb => h a (List.mem_cons_of_mem _ ha) b hb)]
end Go.Proofs.Ytakddciegnkpdaa
