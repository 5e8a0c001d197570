/- The program's 'Apply': what its loop keeps. -/
import Derived.Test.YtblegkefeiefjaaDoorApA
namespace Go.Proofs.YtblegkefeiefjaaDoor
open Go.RowKit Go.Shelf Plain
set_option linter.unusedVariables false
set_option linter.unusedSimpArgs false

structure ApI (w wE : World) (s m : Nat) (pre : List (Itm wE)) (W : World) : Prop where
  r0 : Boxed W s 22 (.slice none 0 0)
  r1 : Boxed W (s + 1) 25 .nilIface
  mks : Boxed W (s + 1 + 1) 3 (.int .i64 m)
  out : Boxed W (s + 1 + 1 + 1 + 1) 22 (.slice (some ⟨s + 1 + 1 + 1, 0, none⟩) (flat pre).length m)
  row : W.ownsRow s 5 1 (.slice (some ⟨s + 1 + 1 + 1, 0, none⟩) (flat pre).length m) (flat pre).length ((flat pre).map (Value.int .u8))
  le : (flat pre).length ≤ m
  ok : ∀ x ∈ pre, x.ok = true
  lt : s + 1 + 1 + 1 + 1 + 1 < W.heap.size
  b1 : Below w.heap.size w W
  b2 : Below wE.heap.size wE W
structure ApX (w wE : World) (s m : Nat) (c : Code) (pre : List (Itm wE)) (W : World) : Prop where
  ret : c = .ret
  why : ∃ p x, pre = p ++ [x] ∧ (flat p).length ≤ m ∧ (∀ y ∈ p, y.ok = true) ∧ (x.ok = false ∨ m < (flat p).length + x.c.length)
  r0 : Boxed W s 22 (.slice none 0 0)
  r1 : Boxed W (s + 1) 25 (.iface 35 (.int .i64 30))
  b1 : Below w.heap.size w W
theorem boxed_kept {A B : World} {row : Option Nat} {k t : Nat} {v : Value} (h : Boxed A k t v) (hg : A.grownBy B row) (hr : ∀ r, row = some r → ∃ o : Obj, A.heap[r]? = some o ∧ o.isCells = false) : Boxed B k t v :=
  h.kept hg (fun e' => by obtain ⟨o, ho, hc⟩ := hr k e'.symm; rw [show A.heap[k]? = _ from h] at ho; cases ho; cases hc)
theorem row_kept {A B : World} {row : Option Nat} {base e size k : Nat} {v : Value} {xs : List Value} (h : A.ownsRow base e size v k xs) (hg : A.grownBy B row) (hr : ∀ r, row = some r → ∃ o : Obj, A.heap[r]? = some o ∧ o.isCells = false) : B.ownsRow base e size v k xs := by
  refine h.kept hg ?_
  rcases h.2 with ⟨rfl, _⟩ | ⟨g, cap, cur, rfl, _, hgb, _⟩
  · exact .inl rfl
  · refine .inr fun e' => ?_
    obtain ⟨o, ho, hc⟩ := hr g (by simpa [Value.ownBlock] using e'.symm)
    rw [hgb] at ho; cases ho; cases hc
theorem ApI.own (w wE : World) (m B : Nat) (h1 : w.heap.size ≤ B) (h2 : wE.heap.size ≤ B) (s : Nat) : OwnFrom B (ApI w wE s m) := fun pre X Y row h hg hr =>
  ⟨boxed_kept h.r0 hg (fun r e => (hr r e).2), boxed_kept h.r1 hg (fun r e => (hr r e).2), boxed_kept h.mks hg (fun r e => (hr r e).2), boxed_kept h.out hg (fun r e => (hr r e).2), row_kept h.row hg (fun r e => (hr r e).2), h.le, h.ok, Nat.lt_of_lt_of_le h.lt hg.size,
    ownFrom_below (β := Unit) (Nat.le_refl _) h1 () X Y row h.b1 hg hr, ownFrom_below (β := Unit) (Nat.le_refl _) h2 () X Y row h.b2 hg hr⟩
theorem ApX.own (w wE : World) (m B : Nat) (h1 : w.heap.size ≤ B) (s : Nat) (c : Code) : OwnFrom B (ApX w wE s m c) := fun pre X Y row h hg hr =>
  ⟨h.ret, h.why, boxed_kept h.r0 hg (fun r e => (hr r e).2), boxed_kept h.r1 hg (fun r e => (hr r e).2), ownFrom_below (β := Unit) (Nat.le_refl _) h1 () X Y row h.b1 hg hr⟩
theorem kp_t {w : World} {b : Nat} {A B C : World} (h : Kp w b A B) (k : Kp w b B C) : Kp w b A C := ⟨h.1.trans k.1, k.2.trans h.2⟩
theorem kp_b {w wL : World} {b : Nat} (h1 : w.heap.size ≤ wL.heap.size) (h2 : b < wL.heap.size) (W : World) (l : Nat) (o o' : Obj) (hl : wL.heap.size ≤ l) (h : W.heap[l]? = some o) (hc : o.isCells = false) (hw : o.isWalk = false) : Kp w b W (W.putObj l o') :=
  ⟨belowK_b h1 W l o o' hl h hc hw, World.putObj_heap_other (by omega)⟩
theorem ApI.ended {w wE : World} {s m : Nat} {base r : List Int} {xs : List (Itm wE)} {W : World} (h : ApI w wE s m xs W) (hS : SAll wE base r xs) : appS base m r [] = if (flat xs).length = m then some (flat xs) else none := by
  rcases hS with hS | ⟨p, r', _, _, _, rfl⟩
  · exact hS.end_ m h.le
  · have := h.ok (Itm.bad wE) (by simp); cases this
theorem ApX.ended {w wE : World} {s m : Nat} {base r : List Int} {c : Code} {pre : List (Itm wE)} {W : World} (h : ApX w wE s m c pre W) (hS : SPart wE base r pre) : appS base m r [] = none := by
  obtain ⟨p, x, rfl, h1, h2, h3⟩ := h.why
  rcases hS with ⟨p', x', r1, r2, hs, hr, hst, hok, he⟩ | ⟨p', r1, hs, hr, hst, he⟩
  · obtain ⟨rfl, hx⟩ := List.append_inj' he rfl
    simp only [List.cons.injEq, and_true] at hx
    subst hx
    rcases h3 with h3 | h3
    · rw [hok] at h3; cases h3
    · exact hs.long m h1 hr hst h3
  · obtain ⟨rfl, hx⟩ := List.append_inj' he rfl
    exact hs.none_ m h1 hr hst
/-- The loop's body puts a chunk behind the others. -/
theorem ApI.more {w wE : World} {s m : Nat} {pre : List (Itm wE)} {x : Itm wE} {W w1 : World} (hs : w.heap.size = s) (hE : wE.heap.size = s + 2) (h : ApI w wE s m pre W) (hx : x.ok = true) (hl : (flat pre).length + x.c.length ≤ m)
    (ho : w1.ownsRow s 5 1 (.slice (some ⟨s + 1 + 1 + 1, 0, none⟩) ((flat pre).length + x.c.length) m) ((flat pre).length + x.c.length) ((flat pre).map (Value.int .u8) ++ x.c.map (Value.int .u8))) (hg : W.grownBy w1 (some (s + 1 + 1 + 1))) :
    Boxed w1 (s + 1 + 1 + 1 + 1) 22 (.slice (some ⟨s + 1 + 1 + 1, 0, none⟩) (flat pre).length m) ∧ (∀ B, KeepsFrom B W (w1.setCell ⟨s + 1 + 1 + 1 + 1, 0, none⟩ (.slice (some ⟨s + 1 + 1 + 1, 0, none⟩) ((flat pre).length + x.c.length) m))) ∧ Kp wE (s + 1 + 1 + 1 + 1 + 1) W (w1.setCell ⟨s + 1 + 1 + 1 + 1, 0, none⟩ (.slice (some ⟨s + 1 + 1 + 1, 0, none⟩) ((flat pre).length + x.c.length) m)) ∧ ApI w wE s m (pre ++ [x]) (w1.setCell ⟨s + 1 + 1 + 1 + 1, 0, none⟩ (.slice (some ⟨s + 1 + 1 + 1, 0, none⟩) ((flat pre).length + x.c.length) m)) := by
  have hk : ∀ {k t v}, Boxed W k t v → k ≠ s + 1 + 1 + 1 → Boxed w1 k t v := fun h hne => h.kept hg (fun e => hne (by cases e; rfl))
  have hbx := hk h.out (by omega)
  have hWs := h.b2.size
  have e1 : (flat pre).length + x.c.length = (flat (pre ++ [x])).length := by rw [flat_snoc]; simp
  have e2 : (flat pre).map (Value.int .u8) ++ x.c.map (Value.int .u8) = (flat (pre ++ [x])).map (Value.int .u8) := by rw [flat_snoc]; simp
  refine ⟨hbx, fun B => ?_, ?_, ?_⟩
  · refine ((KeepsOthers.of_grownBy hg fun j o ej hj => ?_).trans (KeepsOthers.setCell _ _ _)).from B
    rcases h.row.2 with ⟨e, _⟩ | ⟨g, cap, cur, e, _, hgb, _⟩
    · cases e
    · cases e; cases ej
      rw [hgb] at hj; cases hj; rfl
  · refine ⟨((Below.refl _ W).grown hg hWs (fun k e => by cases e; omega)).setCell (by show wE.heap.size ≤ s + 1 + 1 + 1 + 1; omega) _, ?_⟩
    rw [Below.heap_setCell _ _ _ _ (by show s + 1 + 1 + 1 + 1 + 1 ≠ s + 1 + 1 + 1 + 1; omega)]
    exact hg.block _ h.lt (by simp; omega)
  · rw [e1, e2] at ho
    rw [e1]
    exact ⟨(hk h.r0 (by omega)).other (by omega) _, (hk h.r1 (by omega)).other (by omega) _, (hk h.mks (by omega)).other (by omega) _, hbx.set _, ho.kept (grownBy_setCell' _ _ _) (.inr (by simp [Value.ownBlock])), by omega,
      fun y hy => (List.mem_append.1 hy).elim (h.ok y) (fun h1 => by simp at h1; rw [h1]; exact hx),
      Nat.lt_of_lt_of_le h.lt (Nat.le_trans hg.size (grownBy_setCell' _ _ _).size),
      (h.b1.grown hg h.b1.size (fun k e => by cases e; omega)).setCell (by show w.heap.size ≤ s + 1 + 1 + 1 + 1; omega) _,
      (h.b2.grown hg hWs (fun k e => by cases e; omega)).setCell (by show wE.heap.size ≤ s + 1 + 1 + 1 + 1; omega) _⟩
end Go.Proofs.YtblegkefeiefjaaDoor
