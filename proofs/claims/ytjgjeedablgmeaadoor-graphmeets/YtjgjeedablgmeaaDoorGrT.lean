/- 'inOrder'. -/
import Derived.Test.YtjgjeedablgmeaaDoorGrS
namespace Go.Proofs.YtjgjeedablgmeaaDoor
open Go.RowKit
set_option linter.unusedVariables false
set_option linter.unusedSimpArgs false
theorem MI.at {w w' : World} {g n s : Nat} {f : List Int → Option Int} (h : MI w g n f s) (he : w'.heap[g]? = w.heap[g]?) : MI w' g n f s := by
  obtain ⟨D, ⟨es, clock, h1, h2⟩, h3⟩ := h
  exact ⟨D, ⟨es, clock, he.trans h1, h2⟩, h3⟩
theorem Bx.at {α : Type} {enc : α → List Value} {k : Nat} {e : TypeId} {w0 w w' : World} {B : Nat} {v : Value} {l : List α} (h : Bx enc k e w0 w B v l) (hs : w.heap.size ≤ w'.heap.size) (he : ∀ q, v.ownBlock = some q → w'.heap[q]? = w.heap[q]?) : Bx enc k e w' w' B v l := by
  refine ⟨Below.refl _ _, ?_, Nat.le_trans h.le hs⟩
  obtain ⟨h1, ⟨hv, h2⟩ | ⟨g, cap, cur, hv, h2, h3, h4⟩⟩ := h.own
  · exact ⟨h1, .inl ⟨hv, h2⟩⟩
  · exact ⟨h1, .inr ⟨g, cap, cur, hv, h2, (he g (by rw [hv]; rfl)).trans h3, h4⟩⟩
theorem kind_of {α : Type} {enc : α → List Value} {k : Nat} {e : TypeId} {w0 w : World} {B : Nat} {v : Value} {l : List α} (h : Bx enc k e w0 w B v l) (q : Nat) (hq : v.ownBlock = some q) : ∃ cur fz, w.heap[q]? = some (.cells cur e fz) := by
  obtain ⟨h1, ⟨hv, h2⟩ | ⟨g, cap, cur, hv, h2, h3, h4⟩⟩ := h.own
  · rw [hv] at hq; cases hq
  · rw [hv] at hq; cases hq; exact ⟨cur, _, h3⟩
/-- While nodes are put in order: the waits at block gw, the queue, what has come. -/
structure St (G Qb B Bo gw : Nat) (w wr : World) (q : Nat) (f : List Int → Option Int) (v vo : Value) (Q : List Nd) (O : List (List Int)) : Prop where
  below : Below G w wr
  mi : ∃ s, MI wr gw q f s
  qu : Qu wr Qb B v Q
  out : Bi 42 wr wr Bo vo O
  lt : G ≤ gw ∧ gw < B ∧ gw < Qb ∧ Qb < Bo
  hp : Hp Q Q.length
section
variable {G Qb B Bo gw q q' : Nat} {w wr w' : World} {f f' : List Int → Option Int} {v v' vo vo' : Value} {Q Q' : List Nd} {O O' : List (List Int)}
theorem St.apart (h : St G Qb B Bo gw w wr q f v vo Q O) (k : Nat) (h1 : v.ownBlock = some k) (h2 : vo.ownBlock = some k) : False := by
  obtain ⟨c1, f1, e1⟩ := kind_of h.qu.own k h1
  obtain ⟨c2, f2, e2⟩ := kind_of h.out k h2
  rw [e1] at e2
  cases e2
theorem St.sz (h : St G Qb B Bo gw w wr q f v vo Q O) : G ≤ wr.heap.size := by
  have := lt_of_some h.qu.box
  have := h.lt
  omega
theorem St.bel (h : St G Qb B Bo gw w wr q f v vo Q O) (hb : Below wr.heap.size wr w') : St G Qb B Bo gw w w' q f v vo Q O := by
  obtain ⟨s, hm⟩ := h.mi
  exact ⟨h.below.trans (hb.mono h.sz), ⟨s, hm.below hb⟩, h.qu.below hb, h.out.moveB hb, h.lt, h.hp⟩
theorem St.fr2 (h : St G Qb B Bo gw w wr q f v vo Q O) (hf : Fr2 Qb v.ownBlock wr w') (hq : Qu w' Qb B v' Q') (hp : Hp Q' Q'.length) : St G Qb B Bo gw w w' q f v' vo Q' O := by
  obtain ⟨s, hm⟩ := h.mi
  have hlt := h.lt
  have hvB : ∀ k, v.ownBlock = some k → B ≤ k := fun k hk => (own_lt h.qu.own.own k hk).1
  refine ⟨⟨hf.os.trans h.below.os, hf.tape.trans h.below.tape, hf.output.trans h.below.output, Nat.le_trans h.below.size hf.size, fun k hk => (hf.block k (Nat.lt_of_lt_of_le hk h.sz) (by omega) (fun e => by have := hvB k e.symm; omega)).trans (h.below.block k hk)⟩, ⟨s, hm.at (hf.block gw hm.lt (by omega) (fun e => by have := hvB gw e.symm; omega))⟩, hq, h.out.at hf.size (fun k hk => hf.block k (own_lt h.out.own k hk).2 (by have := (own_lt h.out.own k hk).1; omega) (fun e => h.apart k e.symm hk)), h.lt, hp⟩
theorem St.ent (h : St G Qb B Bo gw w wr q f v vo Q O) (hg : wr.grownBy w' (some gw)) {s : Nat} (hm : MI w' gw q' f' s) : St G Qb B Bo gw w w' q' f' v vo Q O := by
  have hlt := h.lt
  refine ⟨h.below.grown hg h.sz (fun k hk => by cases hk; exact hlt.1), ⟨s, hm⟩, ⟨(hg.block Qb (lt_of_some h.qu.box) (by simp; omega)).trans h.qu.box, h.qu.own.move hg ?_, h.qu.ne, h.qu.wf⟩, h.out.move hg ?_, h.lt, h.hp⟩
  · cases hv : v.ownBlock with
    | none => exact .inl rfl
    | some k => exact .inr (fun e => by cases e; have := (own_lt h.qu.own.own gw hv).1; omega)
  · cases hv : vo.ownBlock with
    | none => exact .inl rfl
    | some k => exact .inr (fun e => by cases e; have := (own_lt h.out.own gw hv).1; omega)
theorem St.app (h : St G Qb B Bo gw w wr q f v vo Q O) (hg : wr.grownBy w' vo.ownBlock) (ho : Bi 42 wr w' Bo vo' O') : St G Qb B Bo gw w w' q f v vo' Q O' := by
  obtain ⟨s, hm⟩ := h.mi
  have hlt := h.lt
  have hoB : ∀ k, vo.ownBlock = some k → Bo ≤ k := fun k hk => (own_lt h.out.own k hk).1
  refine ⟨h.below.grown hg h.sz (fun k hk => by have := hoB k hk; omega), ⟨s, hm.kept hg (fun e => by have := hoB gw e.symm; omega)⟩, ⟨(hg.block Qb (lt_of_some h.qu.box) (fun e => by have := hoB Qb e.symm; omega)).trans h.qu.box, h.qu.own.move hg ?_, h.qu.ne, h.qu.wf⟩, ho.re, h.lt, h.hp⟩
  cases hv : v.ownBlock with
  | none => exact .inl rfl
  | some k => exact .inr (fun e => h.apart k hv e.symm)
end
theorem Cn.dec {f : List Int → Option Int} {c c' : List Int → Nat} {y : List Int} (h : Cn f c) (hy : c y = c' y + 1) (ho : ∀ p, p ≠ y → c' p = c p) : Cn (updF f y ((f y).getD 0 - 1)) c' := fun p => by
  unfold updF
  by_cases e : p = y
  · subst e
    rw [if_pos rfl]
    have := h p
    simp only [Option.getD_some]
    omega
  · rw [if_neg e, ho p e]; exact h p
theorem run_build100n (w : World) : (Instr.buildSlice 100 0 #[]).run Tryd.prog w = .ok (.slice (some ⟨w.heap.size, 0, none⟩) 0 0) (w.alloc (.cells #[] 53)) := by kernel_rfl
/-- Each that was taken was the first of those that could come then. -/
def Bst (l D : List Nd) : Prop := ∀ (i : Nat) (x : Nd), D[i]? = some x → ∀ y ∈ l, y ∉ D.take i → (∀ c ∈ l, y.id ∈ c.ps → c ∈ D.take i) → ¬ Ah y x
theorem bst_nil (l : List Nd) : Bst l [] := fun i x h => by simp at h
theorem Bst.pop {l D R Q : List Nd} {n : Nd} (hl : (ids l).Nodup) (h : KS l D R Q) (hb : Bst l D) (hq : ∀ y ∈ Q, ¬ Ah y n) : Bst l (D ++ [n]) := fun i x hx y hy hn hc => by
  by_cases hi : i < D.length
  · rw [List.getElem?_append_left hi] at hx
    rw [List.take_append_of_le_length (by omega)] at hn hc
    exact hb i x hx y hy hn hc
  · rw [List.getElem?_append_right (by omega)] at hx
    have hi2 : i = D.length := by
      have := (List.getElem?_eq_some_iff.1 hx).1
      simp at this; omega
    subst hi2
    have e : x = n := by simpa using hx.symm
    subst e
    rw [List.take_append_of_le_length (Nat.le_refl _), List.take_length] at hn hc
    have hyR : y ∈ R := by
      rcases List.mem_append.1 (h.perm.mem_iff.1 hy) with h1 | h1
      · exact absurd h1 hn
      · exact h1
    refine hq y ((h.inn y hyR).2 ?_)
    apply Classical.byContradiction
    intro h0
    obtain ⟨c, hcR, hp⟩ := cnt_pos.1 h0
    have hcl : c ∈ l := h.perm.mem_iff.2 (by simp [hcR])
    have hcD := hc c hcl hp
    have hone : (ids (D ++ R)).Nodup := (ids_perm h.perm).nodup_iff.1 hl
    unfold ids at hone
    rw [List.map_append, List.nodup_append] at hone
    exact hone.2.2 c.id (mem_ids hcD) c.id (mem_ids hcR) rfl
/-- What 'inOrder' gives: all that can come, in their order. -/
def PostIo (l : List Nd) (S : List Int → Prop) (w : World) (e : Ending) (w' : World) : Prop := Below w.heap.size w w' ∧ ∃ (f : Nd → Bool) (v : Value) (D R : List Nd), (∀ x, f x = true ↔ S x.id) ∧ KS (l.filter f) D R [] ∧ Bst (l.filter f) D ∧ e = .returned v ∧ (∃ Bo, w.heap.size ≤ Bo ∧ Bi 42 w' w' Bo v (ids D)) ∧ ∃ va vc, v = .slice va D.length vc
end Go.Proofs.YtjgjeedablgmeaaDoor
