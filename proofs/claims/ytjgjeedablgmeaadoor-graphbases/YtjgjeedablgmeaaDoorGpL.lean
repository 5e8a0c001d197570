/- The order of a queue, plainly. -/
import Derived.Test.YtjgjeedablgmeaaDoorGrQ
namespace Go.Proofs.YtjgjeedablgmeaaDoor
open Go.RowKit
set_option linter.unusedVariables false
set_option linter.unusedSimpArgs false
theorem cb_pos : ∀ a b : List UInt8, 0 < Lib.compareBytes a b ↔ b < a
  | [], [] => by simp [Lib.compareBytes]
  | [], b :: bs => by simp [Lib.compareBytes]
  | a :: xs, [] => by simp [Lib.compareBytes]
  | a :: xs, b :: bs => by
    rw [Lib.compareBytes, List.cons_lt_cons_iff, ← cb_pos xs bs]
    by_cases h1 : a < b
    · have h2 : ¬ b < a := by rw [UInt8.lt_iff_toNat_lt] at h1 ⊢; omega
      have hne : b ≠ a := fun e => by rw [e] at h1; exact absurd h1 (by rw [UInt8.lt_iff_toNat_lt]; omega)
      simp [h1, h2, hne]
    · rw [if_neg h1]
      by_cases h2 : b < a
      · simp [h2]
      · rw [if_neg h2]
        have he : a = b := by
          rw [UInt8.lt_iff_toNat_lt] at h1 h2
          exact UInt8.toNat_inj.1 (by omega)
        simp [h2, he]
/-- x comes ahead of y: by time, then by id. -/
def Ah (x y : Nd) : Prop := y.tm < x.tm ∨ (x.tm = y.tm ∧ Lib.bytesOf y.id < Lib.bytesOf x.id)
theorem lsN_iff (x y : Nd) : lsN x y = true ↔ Ah x y := by
  unfold lsN Ah cmpI
  by_cases h : x.tm = y.tm
  · rw [if_pos h, decide_eq_true_iff, cb_pos]
    simp [h]
  · rw [if_neg h, decide_eq_true_iff]
    simp [h]
theorem Ah.trans {x y z : Nd} (h1 : Ah x y) (h2 : Ah y z) : Ah x z := by
  rcases h1 with h1 | ⟨h1, h1'⟩ <;> rcases h2 with h2 | ⟨h2, h2'⟩
  · exact .inl (by omega)
  · exact .inl (by omega)
  · exact .inl (by omega)
  · exact .inr ⟨by omega, List.lt_trans h2' h1'⟩
theorem Ah.irrefl (x : Nd) : ¬ Ah x x := by
  rintro (h | ⟨_, h⟩)
  · omega
  · exact List.lt_irrefl _ h
/-- y doesn't come ahead of x. -/
theorem nah_trans {x y z : Nd} (h1 : ¬ Ah y x) (h2 : ¬ Ah z y) : ¬ Ah z x := by
  unfold Ah at *
  rintro (h | ⟨h, h'⟩)
  · have a1 : ¬ x.tm < y.tm := fun h => h1 (.inl h)
    have a2 : ¬ y.tm < z.tm := fun h => h2 (.inl h)
    omega
  · have a1 : ¬ x.tm < y.tm := fun h => h1 (.inl h)
    have a2 : ¬ y.tm < z.tm := fun h => h2 (.inl h)
    have e1 : y.tm = x.tm := by omega
    have e2 : z.tm = y.tm := by omega
    have b1 : ¬ Lib.bytesOf x.id < Lib.bytesOf y.id := fun h => h1 (.inr ⟨e1, h⟩)
    have b2 : ¬ Lib.bytesOf y.id < Lib.bytesOf z.id := fun h => h2 (.inr ⟨e2, h⟩)
    exact (List.not_lt.2 (List.le_trans (List.not_lt.1 b2) (List.not_lt.1 b1))) h'
/-- A heap, but perhaps at j: no node comes ahead of the one that it stands below. -/
def Hp (l : List Nd) (n : Nat) : Prop := ∀ k, 0 < k → k < n → ¬ Ah (l.getD k nd0) (l.getD ((k - 1) / 2) nd0)
/-- The first of a heap: none comes ahead of it. -/
theorem Hp.first {l : List Nd} {n : Nat} (h : Hp l n) : ∀ k, k < n → ¬ Ah (l.getD k nd0) (l.getD 0 nd0) := by
  intro k
  induction k using Nat.strongRecOn with
  | ind k ih =>
    intro hk
    by_cases h0 : k = 0
    · subst h0; exact Ah.irrefl _
    · exact nah_trans (ih ((k - 1) / 2) (by omega) (by omega)) (h k (by omega) hk)
theorem swp_at {α : Type} (l : List α) (i j k : Nat) (d : α) (hi : i < l.length) (hj : j < l.length) : (swp l i j d).getD k d = if k = j then l.getD i d else if k = i then l.getD j d else l.getD k d := by
  unfold swp
  simp only [List.getD_eq_getElem?_getD]
  rw [List.getElem?_set, List.getElem?_set]
  by_cases h1 : j = k
  · subst h1
    simp [hj]
  · have h1' : ¬ k = j := fun e => h1 e.symm
    by_cases h2 : i = k
    · subst h2
      simp [h1, h1', hi]
    · have h2' : ¬ k = i := fun e => h2 e.symm
      simp [h1, h1', h2, h2']
/-- While a node goes up: a heap, but at j. -/
structure UpI (l : List Nd) (n j : Nat) : Prop where
  one : ∀ k, 0 < k → k < n → k ≠ j → ¬ Ah (l.getD k nd0) (l.getD ((k - 1) / 2) nd0)
  two : 0 < j → ∀ k, 0 < k → k < n → (k - 1) / 2 = j → ¬ Ah (l.getD k nd0) (l.getD ((j - 1) / 2) nd0)
theorem UpI.done {l : List Nd} {n j : Nat} (h : UpI l n j) (hj : 0 < j → ¬ Ah (l.getD j nd0) (l.getD ((j - 1) / 2) nd0)) : Hp l n := fun k h0 hk => by
  by_cases e : k = j
  · subst e; exact hj h0
  · exact h.one k h0 hk e
theorem UpI.swap {l : List Nd} {n j : Nat} (h : UpI l n j) (hn : n ≤ l.length) (hj : j < n) (h0 : 0 < j) (ha : Ah (l.getD j nd0) (l.getD ((j - 1) / 2) nd0)) : UpI (swp l ((j - 1) / 2) j nd0) n ((j - 1) / 2) := by
  obtain ⟨i, hi⟩ : ∃ i, i = (j - 1) / 2 := ⟨_, rfl⟩
  rw [← hi] at ha ⊢
  have hij : i < j := by omega
  have at_ := fun k => swp_at l i j k nd0 (by omega) (by omega)
  refine ⟨fun k k0 kn ki => ?_, fun i0 k k0 kn hk => ?_⟩
  · rw [at_ k, at_ ((k - 1) / 2)]
    by_cases e : k = j
    · subst e
      rw [if_pos rfl, if_neg (by omega), if_pos (by omega)]
      exact fun hb => Ah.irrefl _ (ha.trans hb)
    · rw [if_neg e, if_neg ki]
      by_cases e1 : (k - 1) / 2 = j
      · rw [if_pos e1, hi]
        exact h.two h0 k k0 kn e1
      · rw [if_neg e1]
        by_cases e2 : (k - 1) / 2 = i
        · rw [if_pos e2]
          intro hb
          have := h.one k k0 kn e
          rw [e2] at this
          exact this (hb.trans ha)
        · rw [if_neg e2]
          exact h.one k k0 kn e
  · have hq : (i - 1) / 2 ≠ j ∧ (i - 1) / 2 ≠ i := by omega
    have h1 := h.one i i0 (by omega) (by omega)
    rw [at_ k, at_ ((i - 1) / 2), if_neg hq.1, if_neg hq.2]
    by_cases e : k = j
    · rw [if_pos e]; exact h1
    · rw [if_neg e, if_neg (by omega)]
      have h2 := h.one k k0 kn e
      rw [hk] at h2
      exact nah_trans h1 h2
/-- While a node goes down: a heap, but below i. -/
structure DownI (l : List Nd) (n i : Nat) : Prop where
  one : ∀ k, 0 < k → k < n → (k - 1) / 2 ≠ i → ¬ Ah (l.getD k nd0) (l.getD ((k - 1) / 2) nd0)
  two : 0 < i → ∀ k, 0 < k → k < n → (k - 1) / 2 = i → ¬ Ah (l.getD k nd0) (l.getD ((i - 1) / 2) nd0)
theorem DownI.done {l : List Nd} {n i : Nat} (h : DownI l n i) (hc : ∀ k, 0 < k → k < n → (k - 1) / 2 = i → ¬ Ah (l.getD k nd0) (l.getD i nd0)) : Hp l n := fun k h0 hk => by
  by_cases e : (k - 1) / 2 = i
  · have := hc k h0 hk e
    rwa [e]
  · exact h.one k h0 hk e
theorem DownI.swap {l : List Nd} {n i j : Nat} (h : DownI l n i) (hn : n ≤ l.length) (hj : j < n) (h0 : 0 < j) (hp : (j - 1) / 2 = i) (ha : Ah (l.getD j nd0) (l.getD i nd0)) (hm : ∀ k, 0 < k → k < n → (k - 1) / 2 = i → ¬ Ah (l.getD k nd0) (l.getD j nd0)) : DownI (swp l i j nd0) n j := by
  have hij : i < j := by omega
  have at_ := fun k => swp_at l i j k nd0 (by omega) (by omega)
  refine ⟨fun k k0 kn hk => ?_, fun _ k k0 kn hk => ?_⟩
  · rw [at_ k, at_ ((k - 1) / 2)]
    by_cases e : k = j
    · subst e
      rw [if_pos rfl, if_neg (by omega), if_pos (by omega)]
      exact fun hb => Ah.irrefl _ (ha.trans hb)
    · rw [if_neg e, if_neg hk]
      by_cases e1 : k = i
      · subst e1
        rw [if_pos rfl, if_neg (by omega)]
        exact h.two k0 j h0 hj hp
      · rw [if_neg e1]
        by_cases e2 : (k - 1) / 2 = i
        · rw [if_pos e2]; exact hm k k0 kn e2
        · rw [if_neg e2]; exact h.one k k0 kn e2
  · rw [at_ k, at_ ((j - 1) / 2), if_neg (by omega), if_neg (by omega), if_neg (by omega), if_pos (by omega)]
    have := h.one k k0 kn (by omega)
    rwa [hk] at this
theorem Hp.down {l : List Nd} {n m : Nat} (h : Hp l n) (hm : m < n) (hn : n ≤ l.length) : DownI (swp l 0 m nd0) m 0 := by
  have at_ := fun k => swp_at l 0 m k nd0 (by omega) (by omega)
  refine ⟨fun k k0 kn hk => ?_, fun h0 => by omega⟩
  rw [at_ k, at_ ((k - 1) / 2), if_neg (by omega), if_neg (by omega), if_neg (by omega), if_neg hk]
  exact h k k0 (by omega)
theorem Hp.up {l : List Nd} {x : Nd} (h : Hp l l.length) : UpI (l ++ [x]) (l.length + 1) l.length := by
  have at_ : ∀ k, k < l.length → (l ++ [x]).getD k nd0 = l.getD k nd0 := fun k hk => by
    rw [List.getD_eq_getElem?_getD, List.getD_eq_getElem?_getD, List.getElem?_append_left hk]
  refine ⟨fun k k0 kn ke => ?_, fun h0 k k0 kn hk => by omega⟩
  rw [at_ k (by omega), at_ ((k - 1) / 2) (by omega)]
  exact h k k0 (by omega)
theorem nah_of {x y : Nd} (h : lsN x y = false) : ¬ Ah x y := fun e => by rw [(lsN_iff x y).2 e] at h; cases h
theorem ah_of {x y : Nd} (h : lsN x y = true) : Ah x y := (lsN_iff x y).1 h
theorem Ah.asymm {x y : Nd} (h : Ah x y) : ¬ Ah y x := fun e => Ah.irrefl _ (h.trans e)
theorem Hp.take {l : List Nd} {n : Nat} (h : Hp l n) : Hp (l.take n) (l.take n).length := fun k k0 hk => by
  rw [List.length_take] at hk
  have e : ∀ q, q < n → (l.take n).getD q nd0 = l.getD q nd0 := fun q hq => by
    rw [List.getD_eq_getElem?_getD, List.getD_eq_getElem?_getD, List.getElem?_take_of_lt hq]
  rw [e k (by omega), e ((k - 1) / 2) (by omega)]
  exact h k k0 (by omega)
theorem Hp.best {l : List Nd} (h : Hp l l.length) (y : Nd) (hy : y ∈ l) : ¬ Ah y (l.getD 0 nd0) := by
  obtain ⟨k, hk⟩ := List.getElem?_of_mem hy
  have h1 := (List.getElem?_eq_some_iff.1 hk).1
  have := h.first k h1
  rwa [List.getD_eq_getElem?_getD, hk] at this
end Go.Proofs.YtjgjeedablgmeaaDoor
