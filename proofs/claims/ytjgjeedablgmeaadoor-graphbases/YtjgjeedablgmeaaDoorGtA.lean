/- A range over a function that lays what it yields into a variable's slice. -/
import Derived.Test.YtjgjeedablgmeaaDoorGsB
import Derived.RangeFuncNested
import Derived.RangeFuncBound
import Derived.RangeFuncCalls
import Derived.RangeFuncLeaves
import Derived.RangeFuncBox
import Derived.Shelf.Abstract
import Derived.Shelf.RegionOpen
import Derived.WalkKit
import Derived.OwnWalkIn
import Derived.TacticsInMore
import Derived.Sort.LoopGhostIn
import Derived.Maps.OwnIn
import Derived.Great.BuildSlice
namespace Go.Proofs.YtjgjeedablgmeaaDoor
open Go.RowKit Go.Shelf Go.Maps
set_option linter.unusedVariables false
set_option linter.unusedSectionVars false
set_option linter.unusedSimpArgs false
attribute [local go_sem] Oper.semAt_some
theorem hg_alloc (w : World) (o : Obj) : w.grownBy (w.alloc o) none := World.grownBy_alloc w o none
/-- The place of a range over a map. -/
def Itr (A : World) (r : Nat) : Prop := ∃ m s seen c, A.heap[r]? = some (.mapIter m s seen c)
/-- What such a function does: it yields items that are there (Fx) when they are yielded. -/
def SeqAll {α : Type} (F : Fence) (n : Nat) (P : Program) (g : Nat) (lb : Array Value) (encs : α → Array Value) (Fx : α → World → Prop) (Kp : Nat → World → World → Prop) (S : List α → Prop) (N : Nat) (w0 : World) : Prop :=
  ∀ (l : Nat) (J : List α → World → Prop) (W : World), Below w0.heap.size w0 W → w0.heap.size ≤ l → l < W.heap.size →
    (∀ s A B, J s A → A.grownBy B none → J s B) → (∀ s A B r, w0.heap.size ≤ r → Itr A r → J s A → A.grownBy B (some r) → J s B) →
    (∀ pre x W1, J pre W1 → Fx x W1 → pre.length < N → YieldAt F (n - 1) P l (encs x) W1 fun e W' => e = .returned (.bool true) ∧ J (pre ++ [x]) W' ∧ Kp l W1 W') →
    J [] W →
    CallsIn F n P g (#[.func (.yield l) #[] #[]] ++ lb) W fun e W' => (∃ v, e = .returned v) ∧ ∃ xs, S xs ∧ J xs W'

/-- The row of the slice that variable X holds. -/
def Ob (X : Nat) (W : World) (k : Nat) : Prop := ∃ v, W.cell? ⟨X, 0, none⟩ = some v ∧ v.ownBlock = some k
structure Kx (X l : Nat) (A B : World) : Prop where
  os : B.os = A.os
  tape : B.tape = A.tape
  output : B.output = A.output
  size : A.heap.size ≤ B.heap.size
  at_ : ∀ k, Ob X B k → Ob X A k ∨ A.heap.size ≤ k
  blk : ∀ k, k < A.heap.size → k ≠ X → k ≠ l → ¬ Ob X A k → B.heap[k]? = A.heap[k]?
  bd : (∀ k, Ob X A k → k < A.heap.size) → ∀ k, Ob X B k → k < B.heap.size
theorem Kx.refl (X l : Nat) (A : World) : Kx X l A A := ⟨rfl, rfl, rfl, Nat.le_refl _, fun _ h => .inl h, fun _ _ _ _ _ => rfl, fun h => h⟩
theorem Kx.trans {X l : Nat} {A B C : World} (h : Kx X l A B) (k : Kx X l B C) : Kx X l A C := by
  have hs := h.size
  refine ⟨k.os.trans h.os, k.tape.trans h.tape, k.output.trans h.output, Nat.le_trans h.size k.size, fun i hi => ?_, fun i h1 h2 h3 h4 => ?_, fun hb => k.bd (h.bd hb)⟩
  · rcases k.at_ i hi with g | g
    · exact h.at_ i g
    · exact .inr (by omega)
  · refine (k.blk i (by omega) h2 h3 (fun ho => ?_)).trans (h.blk i h1 h2 h3 h4)
    rcases h.at_ i ho with g | g
    · exact h4 g
    · omega
theorem Kx.grow {X l : Nat} {A B : World} (hX : X < A.heap.size) (h : A.grownBy B none) : Kx X l A B :=
  ⟨h.os, h.tape, h.output, h.size, fun k ⟨v, h1, h2⟩ => .inl ⟨v, by rw [← h1]; exact (World.cell?_of_block (a := ⟨X, 0, none⟩) (h.block X hX (by simp))).symm, h2⟩, fun k h1 _ _ _ => h.block k h1 (by simp), fun hb k ⟨v, h1, h2⟩ => Nat.lt_of_lt_of_le (hb k ⟨v, by rw [← h1]; exact (World.cell?_of_block (a := ⟨X, 0, none⟩) (h.block X hX (by simp))).symm, h2⟩) h.size⟩
theorem Kx.loop {X l : Nat} {W : World} {r r' : Loop} (hX : X ≠ l) : Kx X l W (W.putObj l (.loop r')) :=
  ⟨rfl, rfl, rfl, by rw [World.putObj_size]; exact Nat.le_refl _, fun k ⟨v, h1, h2⟩ => .inl ⟨v, by rw [← h1]; exact (World.cell?_of_block (a := ⟨X, 0, none⟩) (World.putObj_heap_other hX)).symm, h2⟩, fun k h1 _ h3 _ => World.putObj_heap_other h3, fun hb k ⟨v, h1, h2⟩ => by rw [World.putObj_size]; exact hb k ⟨v, by rw [← h1]; exact (World.cell?_of_block (a := ⟨X, 0, none⟩) (World.putObj_heap_other hX)).symm, h2⟩⟩
/-- What is kept: a block that is neither the variable's nor its row's nor the loop's. -/
theorem Kx.keep {X l k : Nat} {A B : World} (h : Kx X l A B) (h1 : k < A.heap.size) (h2 : k ≠ X) (h3 : k ≠ l) (h4 : ¬ Ob X A k) : B.heap[k]? = A.heap[k]? := h.blk k h1 h2 h3 h4
/-- Bytes that a slice has, in blocks that are kept. -/
structure Fre (X : Nat) (w : World) (k : Nat) : Prop where
  lt : k < w.heap.size
  ne : k ≠ X
  no : ¬ Ob X w k
theorem Fre.kx {X l k : Nat} {A B : World} (h : Fre X A k) (hk : Kx X l A B) : Fre X B k :=
  ⟨Nat.lt_of_lt_of_le h.lt hk.size, h.ne, fun ho => by rcases hk.at_ k ho with g | g; exact h.no g; have := h.lt; omega⟩
theorem boxed_kx {X l B t : Nat} {v : Value} {A W : World} (h : Boxed A B t v) (hk : Kx X l A W) (hf : Fre X A B) (hl : B ≠ l) : Boxed W B t v := (hk.blk B hf.lt hf.ne hl hf.no).trans h
theorem grown_drewN1 (w : World) : w.grownBy w.drew none := ⟨rfl, rfl, rfl, Nat.le_refl _, fun _ _ _ => rfl⟩
theorem wpListIn_load_mid {F : Fence} {nF : Nat} {P : Program} {ops : Array Oper} {rest : List Oper} {op : Oper} {a : Act} {w : World} {Q : Exit → Act → World → Prop} (hgd : op.guard = none) (ty : TypeId) (x : Operand) (ho : op.op = .load ty x)
    (b o : Nat) (hx : a.eval x = .pointer (some ⟨b, o, none⟩)) (cs : List Value) (d : TypeDesc) (hc : w.rangeAt b o cs)
    (hu : P.underlying ty = some d) (hd : d.isRow = true) (hi : (P.info? ty).map (·.size) = some cs.length)
    (h : wpListIn F nF P ops Q rest (a.put op.dst (.agg cs.toArray)) w) : wpListIn F nF P ops Q (op :: rest) a w := by
  refine wpListIn_plain hgd fun K hK => ?_
  unfold Oper.wpIn
  refine ⟨by simp [Oper.about, ho], ?_⟩
  rw [Oper.semAt_plain F _ _ (by rw [ho]; intro c hc'; cases hc')]
  unfold execOp
  simp only [ho, hx, Instr.loadAt, Instr.sureAddr, Sem.run_bind, Sem.run_pure, Result.andThen_ok, run_loadVar_mid w b o ty cs d hc hu hd hi]
  exact hK _ _ h
theorem wpListIn_store_row {F : Fence} {nF : Nat} {P : Program} {ops : Array Oper} {rest : List Oper} {o : Oper} {a : Act} {w : World} {Q : Exit → Act → World → Prop} (hgd : o.guard = none) (ty : TypeId) (x y : Operand) (ho : o.op = .store ty x y)
    (g : Nat) (cells : Array Value) (hx : a.eval x = .pointer (some ⟨g, 0, none⟩)) (hy : a.eval y = .agg cells)
    (t : TypeId) (old : Array Value) (hg : w.heap[g]? = some (.cells old t (0, 0))) (hi : (P.info? ty).map (·.size) = some cells.size)
    (hold : old.size = cells.size) (h1 : cells.all (·.oneCell') = true)
    (h : wpListIn F nF P ops Q rest (a.put o.dst undef) (w.setRow g cells)) : wpListIn F nF P ops Q (o :: rest) a w := by
  refine wpListIn_plain hgd fun K hK => ?_
  unfold Oper.wpIn
  refine ⟨by simp [Oper.about, ho], ?_⟩
  rw [Oper.semAt_plain F _ _ (by rw [ho]; intro c hc'; cases hc')]
  unfold execOp
  simp only [ho, hx, hy, Instr.storeAt, Instr.sureAddr, Sem.run_bind, Sem.run_pure, Result.andThen_ok, run_storeVar_row w g t ty old cells hg hi hold h1]
  exact hK _ _ h
/-- A slice that has grown: nothing else has turned. -/
structure Mv (w w' : World) (v v' : Value) : Prop where
  os : w'.os = w.os
  tape : w'.tape = w.tape
  output : w'.output = w.output
  size : w.heap.size ≤ w'.heap.size
  blk : ∀ k, k < w.heap.size → some k ≠ v.ownBlock → w'.heap[k]? = w.heap[k]?
  at_ : v'.ownBlock = v.ownBlock ∨ ∀ k, v'.ownBlock = some k → w.heap.size ≤ k
theorem Mv.refl (w : World) (v : Value) : Mv w w v v := ⟨rfl, rfl, rfl, Nat.le_refl _, fun _ _ _ => rfl, .inl rfl⟩
theorem Mv.trans {a b c : World} {u v x : Value} (h : Mv a b u v) (k : Mv b c v x) : Mv a c u x := by
  have hs := h.size
  refine ⟨k.os.trans h.os, k.tape.trans h.tape, k.output.trans h.output, Nat.le_trans h.size k.size, fun i hi hn => ?_, ?_⟩
  · refine (k.blk i (by omega) (fun e => ?_)).trans (h.blk i hi hn)
    rcases h.at_ with g | g
    · exact hn (e.trans g)
    · have := g i e.symm; omega
  · rcases k.at_ with g | g
    · rcases h.at_ with g' | g'
      · exact .inl (g.trans g')
      · exact .inr fun i hi => g' i (g ▸ hi)
    · exact .inr fun i hi => by have := g i hi; omega
theorem Mv.app {w wx w1 : World} {v v' : Value} (h0 : w.grownBy wx none) (hg : wx.grownBy w1 v.ownBlock) (hl : v'.ownBlock = v.ownBlock ∨ v'.ownBlock = some wx.heap.size) : Mv w w1 v v' := by
  have hs := h0.size
  refine ⟨hg.os.trans h0.os, hg.tape.trans h0.tape, hg.output.trans h0.output, Nat.le_trans h0.size hg.size, fun k hk hn => (hg.block k (by omega) hn).trans (h0.block k hk (by simp)), ?_⟩
  rcases hl with h | h
  · exact .inl h
  · exact .inr fun k hk => by rw [h] at hk; simp at hk; omega
theorem Mv.below {w w' : World} {v v' : Value} (h : Mv w w' v v') {B : Nat} (hB : ∀ k, v.ownBlock = some k → B ≤ k) (hw : B ≤ w.heap.size) : Below B w w' :=
  ⟨h.os, h.tape, h.output, h.size, fun k hk => h.blk k (by omega) (fun e => by have := hB k e.symm; omega)⟩
theorem Mv.drew {w w' : World} {v v' : Value} (h : Mv w w' v v') (n : Nat) : Mv w (w'.drewN n) v v' := ⟨h.os, h.tape, h.output, h.size, h.blk, h.at_⟩
/-- The variable's slice grows, and is stored. -/
theorem Kx.mv {X l : Nat} {W W1 : World} {v v1 : Value} (hb : Boxed W X 32 v) (h : Mv W W1 v v1) (hne : some X ≠ v.ownBlock) (hlt : ∀ k, v1.ownBlock = some k → k < W1.heap.size) : Kx X l W (W1.setCell ⟨X, 0, none⟩ v1) := by
  have hX := hb.lt
  have hs := h.size
  have hb1 : W1.heap[X]? = W.heap[X]? := h.blk X hX hne
  have hc : (W1.setCell ⟨X, 0, none⟩ v1).cell? ⟨X, 0, none⟩ = some v1 := World.cell?_setCell_same (u := v) _ _ _ ((World.cell?_of_block (a := ⟨X, 0, none⟩) hb1).trans hb.cell)
  refine ⟨h.os, h.tape, h.output, by simp [World.setCell]; exact hs, fun k ⟨u, h1, h2⟩ => ?_, fun k h1 h2 h3 h4 => ?_, fun _ k ⟨u, h1, h2⟩ => by rw [hc] at h1; cases h1; simp [World.setCell]; exact hlt k h2⟩
  · rw [hc] at h1
    cases h1
    rcases h.at_ with g | g
    · exact .inl ⟨v, hb.cell, by rw [← g]; exact h2⟩
    · exact .inr (g k h2)
  · rw [Below.heap_setCell _ _ _ k h2]
    exact h.blk k h1 (fun e => h4 ⟨v, hb.cell, e.symm⟩)
theorem Mv.grow {A B : World} (v : Value) (h : A.grownBy B none) : Mv A B v v := ⟨h.os, h.tape, h.output, h.size, fun k hk _ => h.block k hk (by simp), .inl rfl⟩
theorem Mv.put {w W : World} {v u : Value} (h : Mv w W v u) {l : Nat} (o : Obj) (hl : w.heap.size ≤ l) : Mv w (W.putObj l o) v u :=
  ⟨h.os, h.tape, h.output, by rw [World.putObj_size]; exact h.size, fun k hk hn => (World.putObj_heap_other (by omega)).trans (h.blk k hk hn), h.at_⟩
theorem owns_cells {W : World} {B : Nat} {u : Value} {n : Nat} {xs : List Value} (h : W.ownsRow B 42 20 u n xs) {k : Nat} (hk : u.ownBlock = some k) : ∃ cur, W.heap[k]? = some (.cells cur 42 (0, 0)) := by
  obtain ⟨_, ⟨rfl, _⟩ | ⟨g, cap, cur, rfl, _, h2, _⟩⟩ := h
  · cases hk
  · simp [Value.ownBlock] at hk; subst hk; exact ⟨cur, h2⟩
/-- The variable's slice grows, and is stored: what is no memory of cells stays. -/
theorem keeps_mv {W W1 : World} {X : Nat} {u u1 : Value} {B n : Nat} {xs : List Value} (hb : Boxed W X 32 u) (ho : W.ownsRow B 42 20 u n xs) (h : Mv W W1 u u1) (Bx : Nat) : KeepsFrom Bx W (W1.setCell ⟨X, 0, none⟩ u1) := by
  refine ⟨by simp [World.setCell]; exact h.size, fun k o _ hk hc => ?_⟩
  have hkX : k ≠ X := fun e => by rw [e, show W.heap[X]? = _ from hb] at hk; cases hk; cases hc
  rw [Below.heap_setCell _ _ _ k hkX, h.blk k (Array.getElem?_eq_some_iff.1 hk).1 (fun e => ?_)]
  · exact hk
  · obtain ⟨cur, hcur⟩ := owns_cells ho e.symm
    rw [hcur] at hk; cases hk; cases hc
theorem Mv.store {w W1 : World} {v u1 : Value} (h : Mv w W1 v u1) {X : Nat} (hX : w.heap.size ≤ X) (y : Value) : Mv w (W1.setCell ⟨X, 0, none⟩ y) v u1 :=
  ⟨h.os, h.tape, h.output, by simp [World.setCell]; exact h.size, fun k hk hn => (Below.heap_setCell _ _ _ k (by show k ≠ X; omega)).trans (h.blk k hk hn), h.at_⟩
theorem results_1 {fn : Func} {p : Tmp} (h : fn.results = #[.tmp p]) (tmps : Array Value) (w : World) (x : Value) (hp : tmps.getD p undef = x) : (results fn tmps).run Tryd.prog w = .ok x w := by
  have hp' : tmps[p]?.getD undef = x := by simpa using hp
  simp [results, h, hp']
theorem ret_1 {fn : Func} {p : Tmp} (h : fn.results = #[.tmp p]) (tmps : Array Value) (W : World) (D : Nat) (x : Value) (hp : tmps.getD p undef = x) (hK : W.heap[D]? = some (.deferred (some []))) (R : Ending → World → Prop) (hR : R (.returned x) (W.putObj D (.deferred none))) :
    bodyPostM Fence.wide 3 Tryd.prog fn R .ret { tmps := tmps, defers := [{ target := .collected D, args := #[] }] } W :=
  ⟨by simp, .inl ⟨_, _, rfl, run_takeDeferred hK, _, results_1 h _ _ _ hp, hR⟩⟩
theorem wpListIn_buildSlice {F : Fence} {nF : Nat} {P : Program} {ops : Array Oper} {rest : List Oper} {o : Oper} {a : Act} {w w' : World} {Q : Exit → Act → World → Prop} (hg : o.guard = none) (t len : Nat) (x : Operand) (ho : o.op = .buildSlice t len #[(0, x)]) (u v : Value) (hx : a.eval x = u)
    (hr : (Instr.buildSlice t len #[(0, u)]).run P w = .ok v w')
    (h : wpListIn F nF P ops Q rest (a.put o.dst v) w') : wpListIn F nF P ops Q (o :: rest) a w := by
  refine wpListIn_plain hg fun K hK => ?_
  unfold Oper.wpIn
  refine ⟨by simp [Oper.about, ho], ?_⟩
  rw [Oper.semAt_plain F _ _ (by rw [ho]; intro c hc'; cases hc')]
  unfold execOp
  simp [ho, hx, hr, Result.andThen]
  exact hK _ _ h
theorem news_rowE (w : World) (RF : List Value) (t : TypeId) : ∀ j u, RF[j]? = some u → (w.alloc (.cells RF.toArray t)).cell? ((⟨w.heap.size, 0, none⟩ : Addr).add j) = some u := fun j u hj => by
  have h := range_row (heap_alloc_new w (.cells RF.toArray t)) j u hj
  rw [addr_add]
  exact h
/-- A range over a function, where a round lays its variable first. -/
theorem range_allA {α : Type} {F : Fence} {n : Nat} {P : Program} {g : Operand} {ps : Array Tmp} {assign body : Code} {Q : Exit → Act → World → Prop} {a : Act} {w : World}
    (hro : F.round = none) (h1 : 1 ≤ n) {gf : Nat} {lb : Array Value} (hg : a.eval g = .func (.func gf) #[] lb) (hFg : F.fn gf) (eg : ∀ args w, (callFunc gf args).run P w = .ok (.enter gf args) w)
    {encs : α → Array Value} {Fx : α → World → Prop} {Kp : Nat → World → World → Prop} {S : List α → Prop} {N : Nat} (hseq : SeqAll F (n - 1) P gf lb encs Fx Kp S N w) (hps : ∀ x, (encs x).size = ps.size)
    (hKt : ∀ {l : Nat} {A B C : World}, Kp l A B → Kp l B C → Kp l A C) (hKl : ∀ (l : Nat) (W : World) (r r' : Loop), w.heap.size ≤ l → W.heap[l]? = some (.loop r) → Kp l W (W.putObj l (.loop r')))
    (hFl : ∀ (l : Nat) (W : World) (r r' : Loop) (x : α), w.heap.size ≤ l → W.heap[l]? = some (.loop r) → Fx x W → Fx x (W.putObj l (.loop r')))
    (I : List α → World → Prop) (hI : ∀ s A B, I s A → A.grownBy B none → I s B) (hI2 : ∀ s A B r, w.heap.size ≤ r → Itr A r → I s A → A.grownBy B (some r) → I s B) (hIl : ∀ (s : List α) (l : Nat) (W : World) (r r' : Loop), w.heap.size ≤ l → W.heap[l]? = some (.loop r) → I s W → I s (W.putObj l (.loop r')))
    (h0 : I [] w) (ax : α → World → Act) (aw : α → World → World) (hag : ∀ (x : α) (W : World), W.grownBy (aw x W) none) (hKa : ∀ (l : Nat) (x : α) (W : World), w.heap.size ≤ l → l < W.heap.size → Kp l W (aw x W)) (hFa : ∀ (x : α) (W : World), Fx x W → Fx x (aw x W))
    (hassign : ∀ (l : Nat) (x : α) (W : World) (K : Act → World → Prop), Fx x W → K (ax x W) (aw x W) → assign.wpIn (F.inRound l) (n - 1 - 1) P (Exit.then K (fun _ _ _ => False)) { tmps := (ps.zip (encs x)).foldl (fun t (p, v) => t.setIfInBounds p v) a.tmps, defers := [] } W)
    (hbody : ∀ (l : Nat) (pre : List α) (x : α) (W0 W : World), w.heap.size ≤ l → l < W0.heap.size → (∀ k, k ≠ l → W.heap[k]? = (aw x W0).heap[k]?) → I pre W → Fx x W → pre.length < N → l < W.heap.size → W0.heap.size ≤ W.heap.size → body.wpIn (F.inRound l) (n - 1 - 1) P (fun e _ W' => e = .normal ∧ KeepsFrom w.heap.size W W' ∧ Kp l W W' ∧ I (pre ++ [x]) W') (ax x W0) W)
    (hdone : ∀ (D : Nat) (xs : List α) (W : World), w.heap.size ≤ D → S xs → I xs W → W.heap[D]? = some (.deferred (some [])) → Q .normal { a with defers := { target := .collected D, args := #[] } :: a.defers } W) :
    (Code.rangeFunc g ps assign body).wpIn F n P Q a w := by
  refine wpIn_rangeFunc ?_
  intro fn hfn
  rw [hro]
  obtain ⟨rc, hrc⟩ : ∃ rc : LoopState → Loop, rc = fun st => { state := st, pending := none, fn, tmps := a.tmps, params := ps, assign, body, defers := w.heap.size } := ⟨_, rfl⟩
  obtain ⟨W1, hW1⟩ : ∃ W1, (w.alloc (.deferred (some []))).alloc (.loop (rc .ready)) = W1 := ⟨_, rfl⟩
  have hg1 : w.grownBy W1 none := by rw [← hW1]; exact (hg_alloc w _).trans (hg_alloc _ _)
  have hs1 : W1.heap.size = w.heap.size + 2 := by rw [← hW1]; simp
  have hL1 : W1.heap[w.heap.size + 1]? = some (.loop (rc .ready)) := by
    rw [← hW1]; have := World.alloc_heap_new (w.alloc (.deferred (some []))) (.loop (rc .ready)); rwa [World.size_alloc] at this
  have hD1 : W1.heap[w.heap.size]? = some (.deferred (some [])) := by
    rw [← hW1]; exact (Below.heap_alloc _ _ _ (by simp)).trans (World.alloc_heap_new w _)
  have hb1 : Below w.heap.size w W1 := ⟨hg1.os, hg1.tape, hg1.output, hg1.size, fun k hk => hg1.block k hk (by simp)⟩
  refine ⟨w.heap.size + 1, [{ target := .collected w.heap.size, args := #[] }], W1, { target := .fn (.func gf) lb, args := #[.func (.yield (w.heap.size + 1)) #[] #[]] }, W1, gf,
    #[.func (.yield (w.heap.size + 1)) #[] #[]] ++ lb, W1, ?_, ?_, ?_, ?_, fun _ => h1, ?_⟩
  · rw [← hW1, hrc]; exact run_enterLoop_outer _ _ _ _ _
  · simp only [resolve, hg]
    simp [go_sem]
  · intro f' hf'; simp [Target.leads] at hf'; subst hf'; exact hFg
  · simp [invoke, go_sem, eg]
  · have keep : ∀ {A B : World} {k : Nat} {o : Obj}, A.grownBy B none → A.heap[k]? = some o → B.heap[k]? = some o := fun hg' hk => (hg'.block _ (Array.getElem?_eq_some_iff.1 hk).1 (by simp)).trans hk
    refine (hseq (w.heap.size + 1) (fun pre W => I pre W ∧ W.heap[w.heap.size + 1]? = some (.loop (rc .ready)) ∧ W.heap[w.heap.size]? = some (.deferred (some []))) W1 hb1 (by omega) (by omega)
      (fun s A B hs hg' => ⟨hI s A B hs.1 hg', keep hg' hs.2.1, keep hg' hs.2.2⟩) (fun s A B r hr ⟨m, s', seen, c, hit⟩ hs hg' => ⟨hI2 s A B r hr ⟨m, s', seen, c, hit⟩ hs.1 hg', (hg'.block _ (Array.getElem?_eq_some_iff.1 hs.2.1).1 (fun e => by cases e; rw [hit] at hs; cases hs.2.1)).trans hs.2.1, (hg'.block _ (Array.getElem?_eq_some_iff.1 hs.2.2).1 (fun e => by cases e; rw [hit] at hs; cases hs.2.2)).trans hs.2.2⟩) ?_ ⟨hI _ _ _ h0 hg1, hL1, hD1⟩).mono ?_
    · rintro pre x W0 ⟨hi0, hl0, hd0⟩ hfx0 hlen
      have hlt0 : w.heap.size + 1 < W0.heap.size := (Array.getElem?_eq_some_iff.1 hl0).1
      have hy := run_yield (P := P) (args := encs x) hl0 (by rw [hrc]; exact hps x)
      rw [hrc] at hy
      have hle : w.heap.size ≤ w.heap.size + 1 := by omega
      have hga := hag x W0
      have hi := hI _ _ _ hi0 hga
      have hl := keep hga hl0
      have hd := keep hga hd0
      have hfx := hFa x W0 hfx0
      have hKp0 := hKa (w.heap.size + 1) x W0 hle hlt0
      refine ⟨fn, _, assign, body, hy, roundIn_of_wpIn hfn (hassign _ x W0 _ hfx0 ?_)⟩
      have hbody0 := hbody (w.heap.size + 1) pre x W0
      have hsz0 := hga.size
      generalize hWW : aw x W0 = W at hi hl hd hfx hKp0 hbody0 hsz0 ⊢
      have hlt : w.heap.size + 1 < W.heap.size := (Array.getElem?_eq_some_iff.1 hl).1
      refine ⟨_, run_beginRound hl (by rw [hrc]), ?_⟩
      have hl2 : (W.putObj (w.heap.size + 1) (.loop { rc .ready with state := .busy })).heap[w.heap.size + 1]? = some (.loop { rc .ready with state := .busy }) := World.putObj_heap_same hlt
      have hd2 : (W.putObj (w.heap.size + 1) (.loop { rc .ready with state := .busy })).heap[w.heap.size]? = some (.deferred (some [])) := (World.putObj_heap_other (by omega)).trans hd
      refine wpIn_mono (hbody0 _ hle hlt0 (fun k hk => World.putObj_heap_other hk) (hIl _ _ _ _ _ hle hl hi) (hFl _ _ _ _ _ hle hl hfx) hlen (by rw [World.putObj_size]; exact hlt) (by rw [World.putObj_size]; exact hsz0)) ?_
      rintro e a3 W3 ⟨rfl, hk3, hkp3, hi3⟩
      have hl3 := hk3.same _ _ hle hl2 rfl
      have hd3 := hk3.same _ _ (Nat.le_refl _) hd2 rfl
      have hr := run_endRound (P := P) none hl3
      refine ⟨_, _, hr, rfl, ⟨hIl _ _ _ _ _ hle hl3 hi3, ?_, (World.putObj_heap_other (by omega)).trans hd3⟩, hKt hKp0 (hKt (hKt (hKl _ _ _ _ hle hl) hkp3) (hKl _ _ _ _ hle hl3))⟩
      rw [World.putObj_heap_same (Array.getElem?_eq_some_iff.1 hl3).1, hrc]
      rfl
    · rintro e W2 ⟨⟨v, rfl⟩, xs, hS, hi, hl, hd⟩
      refine ⟨none, _, by have := run_endLoop (P := P) hl (by rw [hrc]; simp); rw [hrc] at this; exact this, ?_⟩
      exact hdone _ xs _ (Nat.le_refl _) hS (hIl _ _ _ _ _ (by omega) hl hi) ((World.putObj_heap_other (by omega)).trans hd)
theorem wpListIn_range {F : Fence} {nF : Nat} {P : Program} {ops : Array Oper} {rest : List Oper} {o : Oper} {a : Act} {w w' : World} {Q : Exit → Act → World → Prop} (hg : o.guard = none) (t : TypeId) (m : Operand) (ho : o.op = .range t m) (mv v : Value) (hm : a.eval m = mv)
    (hr : (Instr.range t mv).run P w = .ok v w') (h : wpListIn F nF P ops Q rest (a.put o.dst v) w') : wpListIn F nF P ops Q (o :: rest) a w := by
  refine wpListIn_plain hg fun K hK => ?_
  unfold Oper.wpIn
  refine ⟨by simp [Oper.about, ho], ?_⟩
  rw [Oper.semAt_plain F _ _ (by rw [ho]; intro c hc'; cases hc')]
  unfold execOp
  simp [ho, hm, hr, Result.andThen]
  exact hK _ _ h
end Go.Proofs.YtjgjeedablgmeaaDoor
