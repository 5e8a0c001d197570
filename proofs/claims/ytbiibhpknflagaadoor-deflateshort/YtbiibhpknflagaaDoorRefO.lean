/- The document's own reader: what 'told' keeps. -/
import Derived.Test.YtbiibhpknflagaaDoorPlainE
import Derived.Test.YtbiibhpknflagaaDoorRefL
import Derived.Test.YtbiibhpknflagaaDoorToldD
namespace Go.Proofs.YtbiibhpknflagaaDoor
open Go.RowKit Plain
set_option linter.unusedVariables false
set_option linter.unusedSimpArgs false

theorem RS.frame {w w' : World} {E : REnv} {p : Nat} {v : Value} {far er : Int} (h : RS w E p v far er) (h1 : w'.heap[E.S]? = w.heap[E.S]?) (h2 : E.zs ≠ [] → w'.heap[E.ib]? = w.heap[E.ib]?) (hs : w.heap.size ≤ w'.heap.size) : RS w' E p v far er := by
  have c : ∀ i, w'.cell? ⟨E.S, i, none⟩ = w.cell? ⟨E.S, i, none⟩ := fun i => World.cell?_of_block (a := ⟨E.S, i, none⟩) h1
  refine ⟨(c 0).trans h.c0, (c 1).trans h.c1, (c 2).trans h.c2, (c 3).trans h.c3, (c 4).trans h.c4, (c 5).trans h.c5, fun i => (World.frozen?_of_block (a := ⟨E.S, i, none⟩) h1).trans (h.fz i), fun j hj => ?_, h.some, h.ibS, h.ibv, fun hn => Nat.lt_of_lt_of_le (h.ibl hn) hs, Nat.lt_of_lt_of_le h.Sl hs, h.Sv⟩
  have hne : E.zs ≠ [] := by intro e; rw [e] at hj; simp at hj
  exact (World.cell?_of_block (a := ⟨E.ib, E.io + j, none⟩) (h2 hne)).trans (h.src j hj)
theorem RS.below {w w' : World} {E : REnv} {p : Nat} {v : Value} {far er : Int} (h : RS w E p v far er) (hb : Below w.heap.size w w') : RS w' E p v far er := h.frame (hb.block _ h.Sl) (fun hn => hb.block _ (h.ibl hn)) hb.size
/-- What 'told' keeps: its two results' blocks, the stream. -/
structure TI (w wr : World) (E : REnv) (v : Value) (far : Int) (p : Nat) (er : Int) : Prop where
  r : wr.heap[w.heap.size]? = some (.cells #[.slice none 0 0, .slice none 0 0] 72)
  q : wr.heap[w.heap.size + 1]? = some (.cells #[.slice none 0 0, .slice none 0 0] 72)
  sz : w.heap.size + 2 ≤ wr.heap.size
  rs : RS wr E p v far er
  k : Kept E.S (.bool true) (.bool true) w wr
  pp : p ≤ 8 * E.zs.length
  sl : E.S < w.heap.size
  il : E.zs ≠ [] → E.ib < w.heap.size
  ee : er = 0 ∨ er = 10
theorem TI.start {w : World} {E : REnv} {v : Value} {far : Int} {p : Nat} {er : Int} (h : RS w E p v far er) (hp : p ≤ 8 * E.zs.length) (he : er = 0 ∨ er = 10 := by first | exact .inl rfl | exact .inr rfl) :
    TI w ((w.alloc (.cells #[.slice none 0 0, .slice none 0 0] 72)).alloc (.cells #[.slice none 0 0, .slice none 0 0] 72)) E v far p er :=
  ⟨heap_alloc2_old w _ _, heap_alloc2_new w _ _, by simp, rs_alloc (rs_alloc h _) _, ((Kept.refl _ _ _).alloc _).alloc _, hp, h.Sl, h.ibl, he⟩
theorem TI.step {w wr w1 : World} {E : REnv} {v : Value} {far : Int} {p p' : Nat} {er er' : Int} (h : TI w wr E v far p er) (k : Kept E.S (.bool true) (.bool true) wr w1) (r : RS w1 E p' v far er') (hp : p' ≤ 8 * E.zs.length) (he : er' = 0 ∨ er' = 10 := by first | exact .inl rfl | exact .inr rfl) : TI w w1 E v far p' er' :=
  ⟨(k.all _ (by have := h.sz; omega) (by have := h.sl; omega)).trans h.r, (k.all _ (by have := h.sz; omega) (by have := h.sl; omega)).trans h.q, Nat.le_trans h.sz k.size, r, h.k.trans k, hp, h.sl, h.il, he⟩
theorem TI.below {w wr w1 : World} {E : REnv} {v : Value} {far : Int} {p : Nat} {er : Int} (h : TI w wr E v far p er) (hb : Below wr.heap.size wr w1) : TI w w1 E v far p er := h.step (Kept.of_below hb) (h.rs.below hb) h.pp h.ee
/-- A block of our own turns. -/
theorem TI.own {w wr w1 : World} {E : REnv} {v : Value} {far : Int} {p : Nat} {er : Int} (h : TI w wr E v far p er) (hb : Below (w.heap.size + 2) wr w1) : TI w w1 E v far p er :=
  ⟨(hb.block _ (by omega)).trans h.r, (hb.block _ (by omega)).trans h.q, Nat.le_trans h.sz hb.size, h.rs.frame (hb.block _ (by have := h.sl; omega)) (fun hn => hb.block _ (by have := h.il hn; omega)) hb.size,
   ⟨hb.os.trans h.k.os, hb.tape.trans h.k.tape, hb.output.trans h.k.output, Nat.le_trans h.k.size hb.size, fun k h1 h2 h3 => (hb.block k (by omega)).trans (h.k.block k h1 h2 h3), .inl rfl⟩, h.pp, h.sl, h.il, h.ee⟩
theorem TI.drew {w wr : World} {E : REnv} {v : Value} {far : Int} {p : Nat} {er : Int} (h : TI w wr E v far p er) : TI w wr.drew E v far p er :=
  ⟨h.r, h.q, h.sz, ⟨h.rs.c0, h.rs.c1, h.rs.c2, h.rs.c3, h.rs.c4, h.rs.c5, h.rs.fz, h.rs.src, h.rs.some, h.rs.ibS, h.rs.ibv, h.rs.ibl, h.rs.Sl, h.rs.Sv⟩, h.k.drew, h.pp, h.sl, h.il, h.ee⟩
theorem TI.cells {w w4 : World} {E : REnv} {v : Value} {far : Int} {p : Nat} {er : Int} (h : TI w w4 E v far p er) : w4.cell? ⟨w.heap.size, 0, none⟩ = some (.slice none 0 0) ∧ w4.cell? ⟨w.heap.size, 1, none⟩ = some (.slice none 0 0) ∧ w4.cell? ⟨w.heap.size + 1, 0, none⟩ = some (.slice none 0 0) ∧ w4.cell? ⟨w.heap.size + 1, 1, none⟩ = some (.slice none 0 0) ∧
    w4.frozen? ⟨w.heap.size, 0, none⟩ = false ∧ w4.frozen? ⟨w.heap.size, 1, none⟩ = false ∧ w4.frozen? ⟨w.heap.size + 1, 0, none⟩ = false ∧ w4.frozen? ⟨w.heap.size + 1, 1, none⟩ = false :=
  ⟨cell_of (cs := [.slice none 0 0, .slice none 0 0]) h.r rfl, cell_of (cs := [.slice none 0 0, .slice none 0 0]) h.r rfl, cell_of (cs := [.slice none 0 0, .slice none 0 0]) h.q rfl, cell_of (cs := [.slice none 0 0, .slice none 0 0]) h.q rfl, frozen_of_row w4 _ 0 _ 72 h.r, frozen_of_row w4 _ 1 _ 72 h.r, frozen_of_row w4 _ 0 _ 72 h.q, frozen_of_row w4 _ 1 _ 72 h.q⟩
def fin4 (w w4 : World) (a b c d : Value) : World := (((w4.setCell ⟨w.heap.size, 0, none⟩ a).setCell ⟨w.heap.size, 1, none⟩ b).setCell ⟨w.heap.size + 1, 0, none⟩ c).setCell ⟨w.heap.size + 1, 1, none⟩ d
theorem TI.fin {w w4 : World} {E : REnv} {v : Value} {far : Int} {p : Nat} {er : Int} (h : TI w w4 E v far p er) (a b c d : Value) :
    (Kept E.S (.bool true) (.bool true) w (fin4 w w4 a b c d) ∧ RS (fin4 w w4 a b c d) E p v far er) ∧ ((fin4 w w4 a b c d).cell? ⟨w.heap.size, 0, none⟩ = some a ∧ (fin4 w w4 a b c d).cell? ⟨w.heap.size, 1, none⟩ = some b ∧ (fin4 w w4 a b c d).cell? ⟨w.heap.size + 1, 0, none⟩ = some c ∧ (fin4 w w4 a b c d).cell? ⟨w.heap.size + 1, 1, none⟩ = some d) ∧ (∀ k, k ≠ w.heap.size → k ≠ w.heap.size + 1 → (fin4 w w4 a b c d).heap[k]? = w4.heap[k]?) ∧ (fin4 w w4 a b c d).heap.size = w4.heap.size := by
  obtain ⟨c0, c1, c2, c3, _⟩ := h.cells
  have hb : ∀ k, k ≠ w.heap.size → k ≠ w.heap.size + 1 → (fin4 w w4 a b c d).heap[k]? = w4.heap[k]? := fun k h1 h2 =>
    (Below.heap_setCell _ _ _ k (by exact h2)).trans ((Below.heap_setCell _ _ _ k (by exact h2)).trans ((Below.heap_setCell _ _ _ k (by exact h1)).trans (Below.heap_setCell _ _ _ k (by exact h1))))
  have hsz : (fin4 w w4 a b c d).heap.size = w4.heap.size := by simp [fin4, World.setCell]
  have hsl := h.sl
  refine ⟨⟨⟨h.k.os, h.k.tape, h.k.output, by rw [hsz]; exact h.k.size, fun k h1 h2 h3 => (hb k (by omega) (by omega)).trans (h.k.block k h1 h2 h3), .inl rfl⟩, h.rs.frame (hb _ (by omega) (by omega)) (fun hn => hb _ (by have := h.il hn; omega) (by have := h.il hn; omega)) (Nat.le_of_eq hsz.symm)⟩, ⟨?_, ?_, ?_, ?_⟩, hb, hsz⟩
  · exact (cell_set_far _ (by omega)).trans ((cell_set_far _ (by omega)).trans ((cell_set_ne _ (by omega)).trans (World.cell?_setCell_same _ _ _ c0)))
  · exact (cell_set_far _ (by omega)).trans ((cell_set_far _ (by omega)).trans (World.cell?_setCell_same _ _ _ ((cell_set_ne _ (by omega)).trans c1)))
  · exact (cell_set_ne _ (by omega)).trans (World.cell?_setCell_same _ _ _ ((cell_set_far _ (by omega)).trans ((cell_set_far _ (by omega)).trans c2)))
  · exact World.cell?_setCell_same _ _ _ ((cell_set_ne _ (by omega)).trans ((cell_set_far _ (by omega)).trans ((cell_set_far _ (by omega)).trans c3)))
theorem Tryd.results42 : Tryd.f42.results = #[.cell 2 72, .cell 3 72, .tmp 4] := by kernel_rfl
theorem results_three {fn : Func} {p q r : Tmp} (h : fn.results = #[.cell p 72, .cell q 72, .tmp r]) (tmps : Array Value) (w : World) (g k : Nat) (x y x' y' z : Value)
    (hp : tmps.getD p undef = .pointer (some ⟨g, 0, none⟩)) (hq : tmps.getD q undef = .pointer (some ⟨k, 0, none⟩)) (hr : tmps.getD r undef = z) (h0 : w.cell? ⟨g, 0, none⟩ = some x) (h1 : w.cell? ⟨g, 1, none⟩ = some y) (h2 : w.cell? ⟨k, 0, none⟩ = some x') (h3 : w.cell? ⟨k, 1, none⟩ = some y') :
    (results fn tmps).run Tryd.prog w = .ok (.tuple #[.agg #[x, y], .agg #[x', y'], z]) w := by
  have hp' : tmps[p]?.getD undef = .pointer (some ⟨g, 0, none⟩) := by simpa using hp
  have hq' : tmps[q]?.getD undef = .pointer (some ⟨k, 0, none⟩) := by simpa using hq
  have hr' : tmps[r]?.getD undef = z := by simpa using hr
  simp [results, h, hp', hq', hr', asAddr, load72 w g x y h0 h1, load72 w k x' y' h2 h3]
def ToldP (E : REnv) (v : Value) (far : Int) (w : World) (R : Option (List Nat × List Nat × Nat)) (ev : Ending) (w' : World) : Prop :=
  Kept E.S (.bool true) (.bool true) w w' ∧ match R with
  | some (l, d, q) => q ≤ 8 * E.zs.length ∧ RS w' E q v far 0 ∧ ∃ L D, ev = .returned (.tuple #[codeVal L, codeVal D, .bool true]) ∧ NewC w w' L l ∧ NewC w w' D d ∧ l.length ≤ 400 ∧ d.length ≤ 400 ∧ (∀ i, l.getD i 0 ≤ 15) ∧ ∀ i, d.getD i 0 ≤ 15
  | none => ∃ (a b c d : Option Addr × Nat × Nat) (p' : Nat) (er : Int), ev = .returned (.tuple #[.agg #[.slice a.1 a.2.1 a.2.2, .slice b.1 b.2.1 b.2.2], .agg #[.slice c.1 c.2.1 c.2.2, .slice d.1 d.2.1 d.2.2], .bool false]) ∧ p' ≤ 8 * E.zs.length ∧ RS w' E p' v far er ∧ (er = 0 ∨ er = 10)
/-- 'return Code{}, Code{}, false'. -/
theorem told_no {w w4 : World} {E : REnv} {v : Value} {far : Int} {p : Nat} {er : Int} {R : Option (List Nat × List Nat × Nat)} {a : Act} (h : TI w w4 E v far p er) (hR : R = none) (hd : a.defers = [])
    (h2 : a.tmps.getD 2 undef = .pointer (some ⟨w.heap.size, 0, none⟩)) (h3 : a.tmps.getD 3 undef = .pointer (some ⟨w.heap.size + 1, 0, none⟩)) (h4 : a.tmps.getD 4 undef = .bool false) :
    bodyPost Tryd.prog Tryd.f42 (ToldP E v far w R) Exit.ret a (fin4 w w4 (.slice none 0 0) (.slice none 0 0) (.slice none 0 0) (.slice none 0 0)) := by
  obtain ⟨⟨k1, k2⟩, ⟨q2, q3, q4, q5⟩, _, _⟩ := h.fin (.slice none 0 0) (.slice none 0 0) (.slice none 0 0) (.slice none 0 0)
  refine bodyPost_ret (results_three Tryd.results42 _ _ w.heap.size (w.heap.size + 1) _ _ _ _ _ h2 h3 h4 q2 q3 q4 q5) hd ?_
  rw [hR]
  exact ⟨k1, (none, 0, 0), (none, 0, 0), (none, 0, 0), (none, 0, 0), p, er, rfl, h.pp, k2, h.ee⟩
/-- The last test of 'told'. -/
theorem codeQ_any (l : List Nat) : codeQ true true l = codeB l := by
  unfold codeQ codeB bareB
  rw [cnt_sum]
  cases wholeB (cntOf l) <;> cases (below (cntOf l) 16 == 0) <;> simp
theorem codeQ_some (l : List Nat) (i : Nat) (hi : i < l.length) (h0 : 0 < l.getD i 0) (h15 : l.getD i 0 ≤ 15) : codeQ true false l = codeB l := by
  have h1 := one_below l (l.getD i 0) h0 h15
  have h2 : 0 < l.count (l.getD i 0) := List.count_pos_iff.2 (by rw [List.getD_eq_getElem?_getD, List.getElem?_eq_getElem hi]; exact List.getElem_mem hi)
  have e : (below (cntOf l) 16 == 0) = false := by rw [beq_eq_false_iff_ne]; omega
  unfold codeQ codeB bareB
  rw [cnt_sum, e]
  simp
theorem codeQ_whole (l : List Nat) : codeQ false false l = wholeB (cntOf l) := by unfold codeQ; simp
end Go.Proofs.YtbiibhpknflagaaDoor
