/- What 'cut' keeps in memory while it goes on. -/
import Derived.Test.YtakddciegnkpdaaMgG
import Derived.Test.YtakddciegnkpdaaMgS
namespace Go.Proofs.Ytakddciegnkpdaa
open Go.RowKit
set_option linter.unusedVariables false
set_option linter.unusedSimpArgs false
structure Lp (wl W : World) (H pn pt gf gt : Nat) : Prop where
  os : W.os = wl.os
  tape : W.tape = wl.tape
  output : W.output = wl.output
  size : H ≤ W.heap.size
  block : ∀ k, k < H → k ≠ pn → k ≠ pt → k ≠ gf → k ≠ gt → W.heap[k]? = wl.heap[k]?
theorem Lp.fx {wl W W' : World} {H pn pt gf gt : Nat} {r : Option Nat} (h : Lp wl W H pn pt gf gt) (f : Fx W W' pn pt r) (hr : ∀ k, r = some k → H ≤ k) : Lp wl W' H pn pt gf gt :=
  ⟨f.os.trans h.os, f.tape.trans h.tape, f.output.trans h.output, Nat.le_trans h.size f.size, fun k hk h1 h2 h3 h4 => (f.block k (Nat.lt_of_lt_of_le hk h.size) h1 h2 (fun e => by have := hr k e.symm; omega)).trans (h.block k hk h1 h2 h3 h4)⟩
theorem Lp.below {wl W W' : World} {H pn pt gf gt : Nat} (h : Lp wl W H pn pt gf gt) (hb : Below W.heap.size W W') : Lp wl W' H pn pt gf gt := h.fx (fx_below pn pt none hb) (fun k hk => by cases hk)
theorem Lp.drew {wl W : World} {H pn pt gf gt : Nat} (h : Lp wl W H pn pt gf gt) : Lp wl W.drew H pn pt gf gt := ⟨h.os, h.tape, h.output, h.size, h.block⟩
theorem Lp.alloc {wl W : World} {H pn pt gf gt : Nat} (h : Lp wl W H pn pt gf gt) (o : Obj) : Lp wl (W.alloc o) H pn pt gf gt := h.below ((Below.refl _ W).alloc (Nat.le_refl _) o)
theorem Lp.set {wl W : World} {H pn pt gf gt q i : Nat} (h : Lp wl W H pn pt gf gt) (hq : q = gf ∨ q = gt) (v : Value) : Lp wl (W.setCell ⟨q, i, none⟩ v) H pn pt gf gt :=
  ⟨h.os, h.tape, h.output, by simpa [World.setCell] using h.size, fun k hk h1 h2 h3 h4 => (Below.heap_setCell _ _ _ _ (fun e => by rcases hq with rfl | rfl; exact h3 e; exact h4 e)).trans (h.block k hk h1 h2 h3 h4)⟩
theorem Lp.setCells {wl : World} {H pn pt gf gt q : Nat} (hq : q = gf ∨ q = gt) : ∀ (l : List Value) (i : Nat) (W : World), Lp wl W H pn pt gf gt → Lp wl (W.setCells q i l) H pn pt gf gt
  | [], _, _, h => h
  | v :: l, i, W, h => Lp.setCells hq l (i + 1) _ (h.set hq v)
/-- Where something lies that is not changed. -/
def Far (H pn pt gf gt n : Nat) (a : Option Addr) : Prop := 0 < n → ∀ p : Addr, a = some p → p.block < H ∧ p.block ≠ pn ∧ p.block ≠ pt ∧ p.block ≠ gf ∧ p.block ≠ gt
theorem Px.lp {α : Type} {enc : α → List Value} {k : Nat} {d : α} {wl W : World} {a : Option Addr} {cap : Nat} {l : List α} {H pn pt gf gt : Nat} (h : Px enc k d wl a cap l) (hf : Far H pn pt gf gt l.length a) (hp : Lp wl W H pn pt gf gt) : Px enc k d W a cap l :=
  ⟨h.capl, fun h0 => by
    obtain ⟨b, off, e1, e2, e3⟩ := h.at_ h0
    obtain ⟨f1, f2, f3, f4, f5⟩ := hf h0 _ e1
    refine ⟨b, off, e1, Nat.lt_of_lt_of_le f1 hp.size, fun i hi j v hv => ?_⟩
    rw [World.cell?_of_block (a := ⟨b, off + i * k + j, none⟩) (hp.block b f1 f2 f3 f4 f5)]
    exact e3 i hi j v hv, h.nil⟩
/-- Three numbers in a block of their own. -/
def Ti (W : World) (g : Nat) (i j k : Int) : Prop := W.heap[g]? = some (.cells #[.int .i64 i, .int .i64 j, .int .i64 k] 46 (0, 0))
theorem Ti.cells {W : World} {g : Nat} {i j k : Int} (h : Ti W g i j k) : W.cell? ⟨g, 0, none⟩ = some (.int .i64 i) ∧ W.cell? ⟨g, 1, none⟩ = some (.int .i64 j) ∧ W.cell? ⟨g, 2, none⟩ = some (.int .i64 k) := three_of h
theorem Ti.fz {W : World} {g : Nat} {i j k : Int} (h : Ti W g i j k) (q : Nat) : W.frozen? ⟨g, q, none⟩ = false := frozen_of_row W g q _ _ h
theorem Ti.lt {W : World} {g : Nat} {i j k : Int} (h : Ti W g i j k) : g < W.heap.size := lt_of_some h
theorem Ti.kept {W W' : World} {g : Nat} {i j k : Int} (h : Ti W g i j k) (hb : W'.heap[g]? = W.heap[g]?) : Ti W' g i j k := hb.trans h
theorem Ti.set0 {W : World} {g : Nat} {i j k : Int} (h : Ti W g i j k) (z : Int) : Ti (W.setCell ⟨g, 0, none⟩ (.int .i64 z)) g z j k := heap_setCell_same _ _ 0 _ _ _ h
theorem Ti.set1 {W : World} {g : Nat} {i j k : Int} (h : Ti W g i j k) (z : Int) : Ti (W.setCell ⟨g, 1, none⟩ (.int .i64 z)) g i z k := heap_setCell_same _ _ 1 _ _ _ h
theorem Ti.set2 {W : World} {g : Nat} {i j k : Int} (h : Ti W g i j k) (z : Int) : Ti (W.setCell ⟨g, 2, none⟩ (.int .i64 z)) g i j z := heap_setCell_same _ _ 2 _ _ _ h
theorem Ti.other {W : World} {g q r : Nat} {i j k : Int} (h : Ti W g i j k) (hq : g ≠ q) (v : Value) : Ti (W.setCell ⟨q, r, none⟩ v) g i j k := h.kept (Below.heap_setCell _ _ _ _ hq)
theorem Ti.below {W W' : World} {g : Nat} {i j k : Int} (h : Ti W g i j k) (hb : Below W.heap.size W W') : Ti W' g i j k := h.kept (hb.block g h.lt)
theorem Ti.fx {W W' : World} {g pn pt : Nat} {r : Option Nat} {i j k : Int} (h : Ti W g i j k) (f : Fx W W' pn pt r) (h1 : g ≠ pn) (h2 : g ≠ pt) (h3 : some g ≠ r) : Ti W' g i j k := h.kept (f.block g h.lt h1 h2 h3)
/-- The state of a merge, over changes elsewhere. -/
theorem Sx.other {w : World} {B pa pb pn pt q i : Nat} {a b : Str} {v u : Value} {out : Str} {n : Nat} (h : Sx w B pa pb pn pt a b v out n) (hq : q ≠ pa ∧ q ≠ pb ∧ q ≠ pn ∧ q ≠ pt) (hv : ∀ k, v.ownBlock = some k → k ≠ q) : Sx (w.setCell ⟨q, i, none⟩ u) B pa pb pn pt a b v out n where
  ca := by rw [World.cell?_setCell_other _ _ _ _ (fun e => by cases e; exact hq.1 rfl)]; exact h.ca
  cb := by rw [World.cell?_setCell_other _ _ _ _ (fun e => by cases e; exact hq.2.1 rfl)]; exact h.cb
  cn := by rw [World.cell?_setCell_other _ _ _ _ (fun e => by cases e; exact hq.2.2.1 rfl)]; exact h.cn
  fn := by rw [World.frozen?_setCell]; exact h.fn
  ct := by rw [World.cell?_setCell_other _ _ _ _ (fun e => by cases e; exact hq.2.2.2 rfl)]; exact h.ct
  ft := by rw [World.frozen?_setCell]; exact h.ft
  own := h.own.kept (row := some q) ⟨rfl, rfl, rfl, by simp [World.setCell], fun k hk hne => Below.heap_setCell _ _ _ _ (fun e => hne (by rw [e]))⟩ (by
    cases hb : v.ownBlock with
    | none => exact .inl rfl
    | some k => exact .inr (fun e => by cases e; exact hv _ hb rfl))
  la := h.la
  lb := h.lb
  ln := h.ln
  lt := h.lt
  na := h.na
  nb := h.nb
  nn := h.nn
  le := by simpa [World.setCell] using h.le
/-- Nothing has been written yet: the row may lie anywhere. -/
theorem Sx.rebase {w : World} {B H pa pb pn pt : Nat} {a b : Str} {n : Nat} (h : Sx w B pa pb pn pt a b (.slice none 0 0) [] n) (h1 : B ≤ H) (h2 : H ≤ w.heap.size) : Sx w H pa pb pn pt a b (.slice none 0 0) [] n :=
  { h with own := World.ownsRow_nil w H 5 1, la := Nat.lt_of_lt_of_le h.la h1, lb := Nat.lt_of_lt_of_le h.lb h1, ln := Nat.lt_of_lt_of_le h.ln h1, lt := Nat.lt_of_lt_of_le h.lt h1, le := h2 }
end Go.Proofs.Ytakddciegnkpdaa
