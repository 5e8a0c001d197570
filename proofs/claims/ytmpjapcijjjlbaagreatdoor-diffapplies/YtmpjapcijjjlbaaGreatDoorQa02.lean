import Derived.Test.YtmpjapcijjjlbaaGreatDoorQa01
import Derived.RangeFuncNested
import Derived.RangeFuncBound
import Derived.RangeFuncCalls
import Derived.RangeFuncLeaves
import Derived.RangeFuncBox
import Derived.Shelf.Abstract
import Derived.Shelf.RegionOpen
import Derived.WalkKit
import Derived.OwnWalkIn
import Derived.TacticsInMore
import Derived.Sort.LoopGhostIn
import Derived.Maps.OwnIn
import Derived.Great.BuildSlice
namespace Go.Proofs.YtmpjapcijjjlbaaGreatDoor
open Go.RowKit Go.Shelf
set_option linter.unusedVariables false
set_option linter.unusedSectionVars false
set_option linter.unusedSimpArgs false
theorem hg_alloc (w : World) (o : Obj) : w.grownBy (w.alloc o) none := World.grownBy_alloc w o none
def SeqAll {α : Type} (Bs : Nat) (F : Fence) (n : Nat) (P : Program) (g : Nat) (lb : Array Value) (encs : α → Array Value) (Fx : α → World → Prop) (Kp : Nat → World → World → Prop) (S : List α → Prop) (N : Nat) (w0 : World) : Prop :=
  ∀ (l : Nat) (J : List α → World → Prop) (W : World), Below w0.heap.size w0 W → w0.heap.size ≤ l → l < W.heap.size →
    (∀ s A B, J s A → A.grownBy B none → J s B) → (∀ s A B, J s A → A.grownBy B (some Bs) → J s B) →
    (∀ pre x W1, J pre W1 → Fx x W1 → pre.length < N → YieldAt F (n - 1) P l (encs x) W1 fun e W' => e = .returned (.bool true) ∧ J (pre ++ [x]) W' ∧ Kp l W1 W') →
    J [] W →
    CallsIn F n P g (#[.func (.yield l) #[] #[]] ++ lb) W fun e W' => (∃ v, e = .returned v) ∧ ∃ xs, S xs ∧ J xs W'
def Ob (X : Nat) (W : World) (k : Nat) : Prop := ∃ v, W.cell? ⟨X, 0, none⟩ = some v ∧ v.ownBlock = some k
structure Kx (X l : Nat) (A B : World) : Prop where
  os : B.os = A.os
  tape : B.tape = A.tape
  output : B.output = A.output
  size : A.heap.size ≤ B.heap.size
  at_ : ∀ k, Ob X B k → Ob X A k ∨ A.heap.size ≤ k
  blk : ∀ k, k < A.heap.size → k ≠ X → k ≠ l → ¬ Ob X A k → B.heap[k]? = A.heap[k]?
  bd : (∀ k, Ob X A k → k < A.heap.size) → ∀ k, Ob X B k → k < B.heap.size
theorem Kx.refl (X l : Nat) (A : World) : Kx X l A A := ⟨rfl, rfl, rfl, Nat.le_refl _, fun _ h => .inl h, fun _ _ _ _ _ => rfl, fun h => h⟩
theorem Kx.trans {X l : Nat} {A B C : World} (h : Kx X l A B) (k : Kx X l B C) : Kx X l A C := by
  have hs := h.size
  refine ⟨k.os.trans h.os, k.tape.trans h.tape, k.output.trans h.output, Nat.le_trans h.size k.size, fun i hi => ?_, fun i h1 h2 h3 h4 => ?_, fun hb => k.bd (h.bd hb)⟩
  · rcases k.at_ i hi with g | g
    · exact h.at_ i g
    · exact .inr (by omega)
  · refine (k.blk i (by omega) h2 h3 (fun ho => ?_)).trans (h.blk i h1 h2 h3 h4)
    rcases h.at_ i ho with g | g
    · exact h4 g
    · omega
theorem Kx.grow {X l : Nat} {A B : World} (hX : X < A.heap.size) (h : A.grownBy B none) : Kx X l A B :=
  ⟨h.os, h.tape, h.output, h.size, fun k ⟨v, h1, h2⟩ => .inl ⟨v, by rw [← h1]; exact (World.cell?_of_block (a := ⟨X, 0, none⟩) (h.block X hX (by simp))).symm, h2⟩, fun k h1 _ _ _ => h.block k h1 (by simp), fun hb k ⟨v, h1, h2⟩ => Nat.lt_of_lt_of_le (hb k ⟨v, by rw [← h1]; exact (World.cell?_of_block (a := ⟨X, 0, none⟩) (h.block X hX (by simp))).symm, h2⟩) h.size⟩
theorem Kx.loop {X l : Nat} {W : World} {r r' : Loop} (hX : X ≠ l) : Kx X l W (W.putObj l (.loop r')) :=
  ⟨rfl, rfl, rfl, by rw [World.putObj_size]; exact Nat.le_refl _, fun k ⟨v, h1, h2⟩ => .inl ⟨v, by rw [← h1]; exact (World.cell?_of_block (a := ⟨X, 0, none⟩) (World.putObj_heap_other hX)).symm, h2⟩, fun k h1 _ h3 _ => World.putObj_heap_other h3, fun hb k ⟨v, h1, h2⟩ => by rw [World.putObj_size]; exact hb k ⟨v, by rw [← h1]; exact (World.cell?_of_block (a := ⟨X, 0, none⟩) (World.putObj_heap_other hX)).symm, h2⟩⟩
theorem Kx.keep {X l k : Nat} {A B : World} (h : Kx X l A B) (h1 : k < A.heap.size) (h2 : k ≠ X) (h3 : k ≠ l) (h4 : ¬ Ob X A k) : B.heap[k]? = A.heap[k]? := h.blk k h1 h2 h3 h4
structure Fre (X : Nat) (w : World) (k : Nat) : Prop where
  lt : k < w.heap.size
  ne : k ≠ X
  no : ¬ Ob X w k
theorem Fre.kx {X l k : Nat} {A B : World} (h : Fre X A k) (hk : Kx X l A B) : Fre X B k :=
  ⟨Nat.lt_of_lt_of_le h.lt hk.size, h.ne, fun ho => by rcases hk.at_ k ho with g | g; exact h.no g; have := h.lt; omega⟩
theorem boxed_kx {X l B t : Nat} {v : Value} {A W : World} (h : Boxed A B t v) (hk : Kx X l A W) (hf : Fre X A B) (hl : B ≠ l) : Boxed W B t v := (hk.blk B hf.lt hf.ne hl hf.no).trans h
theorem grown_drewN1 (w : World) : w.grownBy w.drew none := ⟨rfl, rfl, rfl, Nat.le_refl _, fun _ _ _ => rfl⟩
structure Mv (w w' : World) (v v' : Value) : Prop where
  os : w'.os = w.os
  tape : w'.tape = w.tape
  output : w'.output = w.output
  size : w.heap.size ≤ w'.heap.size
  blk : ∀ k, k < w.heap.size → some k ≠ v.ownBlock → w'.heap[k]? = w.heap[k]?
  at_ : v'.ownBlock = v.ownBlock ∨ ∀ k, v'.ownBlock = some k → w.heap.size ≤ k
theorem Mv.refl (w : World) (v : Value) : Mv w w v v := ⟨rfl, rfl, rfl, Nat.le_refl _, fun _ _ _ => rfl, .inl rfl⟩
theorem Mv.trans {a b c : World} {u v x : Value} (h : Mv a b u v) (k : Mv b c v x) : Mv a c u x := by
  have hs := h.size
  refine ⟨k.os.trans h.os, k.tape.trans h.tape, k.output.trans h.output, Nat.le_trans h.size k.size, fun i hi hn => ?_, ?_⟩
  · refine (k.blk i (by omega) (fun e => ?_)).trans (h.blk i hi hn)
    rcases h.at_ with g | g
    · exact hn (e.trans g)
    · have := g i e.symm; omega
  · rcases k.at_ with g | g
    · rcases h.at_ with g' | g'
      · exact .inl (g.trans g')
      · exact .inr fun i hi => g' i (g ▸ hi)
    · exact .inr fun i hi => by have := g i hi; omega
theorem Mv.app {w wx w1 : World} {v v' : Value} (h0 : w.grownBy wx none) (hg : wx.grownBy w1 v.ownBlock) (hl : v'.ownBlock = v.ownBlock ∨ v'.ownBlock = some wx.heap.size) : Mv w w1 v v' := by
  have hs := h0.size
  refine ⟨hg.os.trans h0.os, hg.tape.trans h0.tape, hg.output.trans h0.output, Nat.le_trans h0.size hg.size, fun k hk hn => (hg.block k (by omega) hn).trans (h0.block k hk (by simp)), ?_⟩
  rcases hl with h | h
  · exact .inl h
  · exact .inr fun k hk => by rw [h] at hk; simp at hk; omega
theorem Mv.below {w w' : World} {v v' : Value} (h : Mv w w' v v') {B : Nat} (hB : ∀ k, v.ownBlock = some k → B ≤ k) (hw : B ≤ w.heap.size) : Below B w w' :=
  ⟨h.os, h.tape, h.output, h.size, fun k hk => h.blk k (by omega) (fun e => by have := hB k e.symm; omega)⟩
theorem Mv.drew {w w' : World} {v v' : Value} (h : Mv w w' v v') (n : Nat) : Mv w (w'.drewN n) v v' := ⟨h.os, h.tape, h.output, h.size, h.blk, h.at_⟩
theorem Kx.mv {X l : Nat} {W W1 : World} {v v1 : Value} (hb : Boxed W X 40 v) (h : Mv W W1 v v1) (hne : some X ≠ v.ownBlock) (hlt : ∀ k, v1.ownBlock = some k → k < W1.heap.size) : Kx X l W (W1.setCell ⟨X, 0, none⟩ v1) := by
  have hX := hb.lt
  have hs := h.size
  have hb1 : W1.heap[X]? = W.heap[X]? := h.blk X hX hne
  have hc : (W1.setCell ⟨X, 0, none⟩ v1).cell? ⟨X, 0, none⟩ = some v1 := World.cell?_setCell_same (u := v) _ _ _ ((World.cell?_of_block (a := ⟨X, 0, none⟩) hb1).trans hb.cell)
  refine ⟨h.os, h.tape, h.output, by simp [World.setCell]; exact hs, fun k ⟨u, h1, h2⟩ => ?_, fun k h1 h2 h3 h4 => ?_, fun _ k ⟨u, h1, h2⟩ => by rw [hc] at h1; cases h1; simp [World.setCell]; exact hlt k h2⟩
  · rw [hc] at h1
    cases h1
    rcases h.at_ with g | g
    · exact .inl ⟨v, hb.cell, by rw [← g]; exact h2⟩
    · exact .inr (g k h2)
  · rw [Below.heap_setCell _ _ _ k h2]
    exact h.blk k h1 (fun e => h4 ⟨v, hb.cell, e.symm⟩)
theorem Mv.grow {A B : World} (v : Value) (h : A.grownBy B none) : Mv A B v v := ⟨h.os, h.tape, h.output, h.size, fun k hk _ => h.block k hk (by simp), .inl rfl⟩
theorem Mv.put {w W : World} {v u : Value} (h : Mv w W v u) {l : Nat} (o : Obj) (hl : w.heap.size ≤ l) : Mv w (W.putObj l o) v u :=
  ⟨h.os, h.tape, h.output, by rw [World.putObj_size]; exact h.size, fun k hk hn => (World.putObj_heap_other (by omega)).trans (h.blk k hk hn), h.at_⟩
theorem owns_cells {W : World} {B : Nat} {u : Value} {n : Nat} {xs : List Value} (h : W.ownsRow B 9 1 u n xs) {k : Nat} (hk : u.ownBlock = some k) : ∃ cur, W.heap[k]? = some (.cells cur 9 (0, 0)) := by
  obtain ⟨_, ⟨rfl, _⟩ | ⟨g, cap, cur, rfl, _, h2, _⟩⟩ := h
  · cases hk
  · simp [Value.ownBlock] at hk; subst hk; exact ⟨cur, h2⟩
theorem keeps_mv {W W1 : World} {X : Nat} {u u1 : Value} {B n : Nat} {xs : List Value} (hb : Boxed W X 40 u) (ho : W.ownsRow B 9 1 u n xs) (h : Mv W W1 u u1) (Bx : Nat) : KeepsFrom Bx W (W1.setCell ⟨X, 0, none⟩ u1) := by
  refine ⟨by simp [World.setCell]; exact h.size, fun k o _ hk hc => ?_⟩
  have hkX : k ≠ X := fun e => by rw [e, show W.heap[X]? = _ from hb] at hk; cases hk; cases hc
  rw [Below.heap_setCell _ _ _ k hkX, h.blk k (Array.getElem?_eq_some_iff.1 hk).1 (fun e => ?_)]
  · exact hk
  · obtain ⟨cur, hcur⟩ := owns_cells ho e.symm
    rw [hcur] at hk; cases hk; cases hc
theorem Mv.store {w W1 : World} {v u1 : Value} (h : Mv w W1 v u1) {X : Nat} (hX : w.heap.size ≤ X) (y : Value) : Mv w (W1.setCell ⟨X, 0, none⟩ y) v u1 :=
  ⟨h.os, h.tape, h.output, by simp [World.setCell]; exact h.size, fun k hk hn => (Below.heap_setCell _ _ _ k (by show k ≠ X; omega)).trans (h.blk k hk hn), h.at_⟩
theorem results_1 {fn : Func} {p : Tmp} (h : fn.results = #[.tmp p]) (tmps : Array Value) (w : World) (x : Value) (hp : tmps.getD p undef = x) : (results fn tmps).run Tryz.prog w = .ok x w := by
  have hp' : tmps[p]?.getD undef = x := by simpa using hp
  simp [results, h, hp']
theorem ret_1 {fn : Func} {p : Tmp} (h : fn.results = #[.tmp p]) (tmps : Array Value) (W : World) (D : Nat) (x : Value) (hp : tmps.getD p undef = x) (hK : W.heap[D]? = some (.deferred (some []))) (R : Ending → World → Prop) (hR : R (.returned x) (W.putObj D (.deferred none))) :
    bodyPostM Fence.wide 3 Tryz.prog fn R .ret { tmps := tmps, defers := [{ target := .collected D, args := #[] }] } W :=
  ⟨by simp, .inl ⟨_, _, rfl, run_takeDeferred hK, _, results_1 h _ _ _ hp, hR⟩⟩
theorem wpListIn_buildSlice {F : Fence} {nF : Nat} {P : Program} {ops : Array Oper} {rest : List Oper} {o : Oper} {a : Act} {w w' : World} {Q : Exit → Act → World → Prop} (hg : o.guard = none) (t len : Nat) (x : Operand) (ho : o.op = .buildSlice t len #[(0, x)]) (u v : Value) (hx : a.eval x = u)
    (hr : (Instr.buildSlice t len #[(0, u)]).run P w = .ok v w')
    (h : wpListIn F nF P ops Q rest (a.put o.dst v) w') : wpListIn F nF P ops Q (o :: rest) a w := by
  refine wpListIn_plain hg fun K hK => ?_
  unfold Oper.wpIn
  refine ⟨by simp [Oper.about, ho], ?_⟩
  rw [Oper.semAt_plain F _ _ (by rw [ho]; intro c hc'; cases hc')]
  unfold execOp
  simp [ho, hx, hr, Result.andThen]
  exact hK _ _ h
theorem news_rowE (w : World) (RF : List Value) (t : TypeId) : ∀ j u, RF[j]? = some u → (w.alloc (.cells RF.toArray t)).cell? ((⟨w.heap.size, 0, none⟩ : Addr).add j) = some u := fun j u hj => by
  have h := range_row (heap_alloc_new w (.cells RF.toArray t)) j u hj
  rw [addr_add]
  exact h
theorem range_allA {α : Type} {F : Fence} {n : Nat} {P : Program} {g : Operand} {ps : Array Tmp} {assign body : Code} {Q : Exit → Act → World → Prop} {a : Act} {w : World}
    (hro : F.round = none) (h1 : 1 ≤ n) {gf : Nat} {lb : Array Value} (hg : a.eval g = .func (.func gf) #[] lb) (hFg : F.fn gf) (eg : ∀ args w, (callFunc gf args).run P w = .ok (.enter gf args) w)
    {encs : α → Array Value} {Fx : α → World → Prop} {Kp : Nat → World → World → Prop} {S : List α → Prop} {N Bs : Nat} (hBs : Bs < w.heap.size) (hseq : SeqAll Bs F (n - 1) P gf lb encs Fx Kp S N w) (hps : ∀ x, (encs x).size = ps.size)
    (hKt : ∀ {l : Nat} {A B C : World}, Kp l A B → Kp l B C → Kp l A C) (hKl : ∀ (l : Nat) (W : World) (r r' : Loop), w.heap.size ≤ l → W.heap[l]? = some (.loop r) → Kp l W (W.putObj l (.loop r')))
    (hFl : ∀ (l : Nat) (W : World) (r r' : Loop) (x : α), w.heap.size ≤ l → W.heap[l]? = some (.loop r) → Fx x W → Fx x (W.putObj l (.loop r')))
    (I : List α → World → Prop) (hI : ∀ s A B, I s A → A.grownBy B none → I s B) (hI2 : ∀ s A B, I s A → A.grownBy B (some Bs) → I s B) (hIl : ∀ (s : List α) (l : Nat) (W : World) (r r' : Loop), w.heap.size ≤ l → W.heap[l]? = some (.loop r) → I s W → I s (W.putObj l (.loop r')))
    (h0 : I [] w) (ax : α → World → Act) (aw : α → World → World) (hag : ∀ (x : α) (W : World), W.grownBy (aw x W) none) (hKa : ∀ (l : Nat) (x : α) (W : World), w.heap.size ≤ l → l < W.heap.size → Kp l W (aw x W)) (hFa : ∀ (x : α) (W : World), Fx x W → Fx x (aw x W))
    (hassign : ∀ (l : Nat) (x : α) (W : World) (K : Act → World → Prop), Fx x W → K (ax x W) (aw x W) → assign.wpIn (F.inRound l) (n - 1 - 1) P (Exit.then K (fun _ _ _ => False)) { tmps := (ps.zip (encs x)).foldl (fun t (p, v) => t.setIfInBounds p v) a.tmps, defers := [] } W)
    (hbody : ∀ (l : Nat) (pre : List α) (x : α) (W0 W : World), w.heap.size ≤ l → l < W0.heap.size → (∀ k, k ≠ l → W.heap[k]? = (aw x W0).heap[k]?) → I pre W → Fx x W → pre.length < N → l < W.heap.size → W0.heap.size ≤ W.heap.size → body.wpIn (F.inRound l) (n - 1 - 1) P (fun e _ W' => e = .normal ∧ KeepsFrom w.heap.size W W' ∧ Kp l W W' ∧ I (pre ++ [x]) W') (ax x W0) W)
    (hdone : ∀ (D : Nat) (xs : List α) (W : World), w.heap.size ≤ D → S xs → I xs W → W.heap[D]? = some (.deferred (some [])) → Q .normal { a with defers := { target := .collected D, args := #[] } :: a.defers } W) :
    (Code.rangeFunc g ps assign body).wpIn F n P Q a w := by
  refine wpIn_rangeFunc ?_
  intro fn hfn
  rw [hro]
  obtain ⟨rc, hrc⟩ : ∃ rc : LoopState → Loop, rc = fun st => { state := st, pending := none, fn, tmps := a.tmps, params := ps, assign, body, defers := w.heap.size } := ⟨_, rfl⟩
  obtain ⟨W1, hW1⟩ : ∃ W1, (w.alloc (.deferred (some []))).alloc (.loop (rc .ready)) = W1 := ⟨_, rfl⟩
  have hg1 : w.grownBy W1 none := by rw [← hW1]; exact (hg_alloc w _).trans (hg_alloc _ _)
  have hs1 : W1.heap.size = w.heap.size + 2 := by rw [← hW1]; simp
  have hL1 : W1.heap[w.heap.size + 1]? = some (.loop (rc .ready)) := by
    rw [← hW1]; have := World.alloc_heap_new (w.alloc (.deferred (some []))) (.loop (rc .ready)); rwa [World.size_alloc] at this
  have hD1 : W1.heap[w.heap.size]? = some (.deferred (some [])) := by
    rw [← hW1]; exact (Below.heap_alloc _ _ _ (by simp)).trans (World.alloc_heap_new w _)
  have hb1 : Below w.heap.size w W1 := ⟨hg1.os, hg1.tape, hg1.output, hg1.size, fun k hk => hg1.block k hk (by simp)⟩
  refine ⟨w.heap.size + 1, [{ target := .collected w.heap.size, args := #[] }], W1, { target := .fn (.func gf) lb, args := #[.func (.yield (w.heap.size + 1)) #[] #[]] }, W1, gf,
    #[.func (.yield (w.heap.size + 1)) #[] #[]] ++ lb, W1, ?_, ?_, ?_, ?_, fun _ => h1, ?_⟩
  · rw [← hW1, hrc]; exact run_enterLoop_outer _ _ _ _ _
  · simp only [resolve, hg]
    simp [go_sem]
  · intro f' hf'; simp [Target.leads] at hf'; subst hf'; exact hFg
  · simp [invoke, go_sem, eg]
  · have keep : ∀ {A B : World} {k : Nat} {o : Obj}, A.grownBy B none → A.heap[k]? = some o → B.heap[k]? = some o := fun hg' hk => (hg'.block _ (Array.getElem?_eq_some_iff.1 hk).1 (by simp)).trans hk
    refine (hseq (w.heap.size + 1) (fun pre W => I pre W ∧ W.heap[w.heap.size + 1]? = some (.loop (rc .ready)) ∧ W.heap[w.heap.size]? = some (.deferred (some []))) W1 hb1 (by omega) (by omega)
      (fun s A B hs hg' => ⟨hI s A B hs.1 hg', keep hg' hs.2.1, keep hg' hs.2.2⟩) (fun s A B hs hg' => ⟨hI2 s A B hs.1 hg', (hg'.block _ (Array.getElem?_eq_some_iff.1 hs.2.1).1 (fun e => by cases e; omega)).trans hs.2.1, (hg'.block _ (Array.getElem?_eq_some_iff.1 hs.2.2).1 (fun e => by cases e; omega)).trans hs.2.2⟩) ?_ ⟨hI _ _ _ h0 hg1, hL1, hD1⟩).mono ?_
    · rintro pre x W0 ⟨hi0, hl0, hd0⟩ hfx0 hlen
      have hlt0 : w.heap.size + 1 < W0.heap.size := (Array.getElem?_eq_some_iff.1 hl0).1
      have hy := run_yield (P := P) (args := encs x) hl0 (by rw [hrc]; exact hps x)
      rw [hrc] at hy
      have hle : w.heap.size ≤ w.heap.size + 1 := by omega
      have hga := hag x W0
      have hi := hI _ _ _ hi0 hga
      have hl := keep hga hl0
      have hd := keep hga hd0
      have hfx := hFa x W0 hfx0
      have hKp0 := hKa (w.heap.size + 1) x W0 hle hlt0
      refine ⟨fn, _, assign, body, hy, roundIn_of_wpIn hfn (hassign _ x W0 _ hfx0 ?_)⟩
      have hbody0 := hbody (w.heap.size + 1) pre x W0
      have hsz0 := hga.size
      generalize hWW : aw x W0 = W at hi hl hd hfx hKp0 hbody0 hsz0 ⊢
      have hlt : w.heap.size + 1 < W.heap.size := (Array.getElem?_eq_some_iff.1 hl).1
      refine ⟨_, run_beginRound hl (by rw [hrc]), ?_⟩
      have hl2 : (W.putObj (w.heap.size + 1) (.loop { rc .ready with state := .busy })).heap[w.heap.size + 1]? = some (.loop { rc .ready with state := .busy }) := World.putObj_heap_same hlt
      have hd2 : (W.putObj (w.heap.size + 1) (.loop { rc .ready with state := .busy })).heap[w.heap.size]? = some (.deferred (some [])) := (World.putObj_heap_other (by omega)).trans hd
      refine wpIn_mono (hbody0 _ hle hlt0 (fun k hk => World.putObj_heap_other hk) (hIl _ _ _ _ _ hle hl hi) (hFl _ _ _ _ _ hle hl hfx) hlen (by rw [World.putObj_size]; exact hlt) (by rw [World.putObj_size]; exact hsz0)) ?_
      rintro e a3 W3 ⟨rfl, hk3, hkp3, hi3⟩
      have hl3 := hk3.same _ _ hle hl2 rfl
      have hd3 := hk3.same _ _ (Nat.le_refl _) hd2 rfl
      have hr := run_endRound (P := P) none hl3
      refine ⟨_, _, hr, rfl, ⟨hIl _ _ _ _ _ hle hl3 hi3, ?_, (World.putObj_heap_other (by omega)).trans hd3⟩, hKt hKp0 (hKt (hKt (hKl _ _ _ _ hle hl) hkp3) (hKl _ _ _ _ hle hl3))⟩
      rw [World.putObj_heap_same (Array.getElem?_eq_some_iff.1 hl3).1, hrc]
      rfl
    · rintro e W2 ⟨⟨v, rfl⟩, xs, hS, hi, hl, hd⟩
      refine ⟨none, _, by have := run_endLoop (P := P) hl (by rw [hrc]; simp); rw [hrc] at this; exact this, ?_⟩
      exact hdone _ xs _ (Nat.le_refl _) hS (hIl _ _ _ _ _ (by omega) hl hi) ((World.putObj_heap_other (by omega)).trans hd)
end Go.Proofs.YtmpjapcijjjlbaaGreatDoor
namespace Go.Proofs.YtmpjapcijjjlbaaGreatDoor
open Go.RowKit Go.Shelf
set_option linter.unusedVariables false
set_option linter.unusedSectionVars false
set_option linter.unusedSimpArgs false
theorem idx37 (s : Str) (w : World) : (callFunc 83 #[sV s, .int .u8 10]).run Tryz.prog w = .ok (.value (.int .i64 (Lib.indexByte s 10))) w := by
  unfold sV
  rw [run_callFunc_extern Tryz.func83 (by kernel_rfl) (by kernel_rfl) (by kernel_rfl) (e := Extern.BytealgIndexByte.indexByte) (by kernel_rfl), Lib.run_indexByteString]
  rfl
theorem idx31 (s : Str) (w : World) : Calls Tryz.prog 71 #[sV s, .int .u8 10] w fun e w' => e = .returned (.int .i64 (Lib.indexByte s 10)) ∧ w' = w := by
  have h := idx37 s w
  obtain ⟨T, HT⟩ : ∃ T, Hid (sV s = T) := ⟨_, rfl⟩
  rw [HT.out] at h ⊢
  go_enter Tryz.func71, Tryz.ntmps71
  go_wp2
  go_ret
  exact ⟨rfl, rfl⟩
theorem idx22 (s : Str) (w : World) : Calls Tryz.prog 53 #[sV s, .int .u8 10] w fun e w' => e = .returned (.int .i64 (Lib.indexByte s 10)) ∧ w' = w := by
  have h : Hid (Calls Tryz.prog 71 #[sV s, .int .u8 10] w fun e w' => e = .returned (.int .i64 (Lib.indexByte s 10)) ∧ w' = w) := idx31 s w
  obtain ⟨T, HT⟩ : ∃ T, Hid (sV s = T) := ⟨_, rfl⟩
  rw [HT.out] at h ⊢
  go_enter Tryz.func53, Tryz.ntmps53
  go_wp2_with fail
  refine h.out.mono ?_
  rintro e w1 ⟨rfl, rfl⟩
  go_wp2
  go_ret
  exact ⟨rfl, rfl⟩
theorem slc_to (s : Str) (j : Nat) (J : Int) (hJ : J = j) (h : j ≤ s.length) (w : World) : (Instr.slice 9 (sV s) none (some (.int .i64 J)) none).run Tryz.prog w = .ok (sV (s.take j)) w := by
  subst hJ
  unfold sV
  rw [run_slice_string_to_if w 9 _ .i64 j Tryz.underlying9, if_pos ⟨by omega, by rw [txt_len]; omega⟩, Int.toNat_natCast, ext_txt, List.drop_zero, Nat.sub_zero]
theorem slc_from (s : Str) (i : Nat) (I : Int) (hI : I = i) (h : i ≤ s.length) (w : World) : (Instr.slice 9 (sV s) (some (.int .i64 I)) none none).run Tryz.prog w = .ok (sV (s.drop i)) w := by
  subst hI
  unfold sV
  rw [run_slice_string_from_if w 9 _ .i64 i Tryz.underlying9, if_pos ⟨by omega, by rw [txt_len]; omega⟩, Int.toNat_natCast, ext_txt, txt_len, List.take_of_length_le (by rw [List.length_drop]; omega)]
theorem len_sV (s : Str) (ty : TypeId) (w : World) : (Builtin.len_ #[9] ty #[sV s]).run Tryz.prog w = .ok (.int .i64 (s.length : Nat)) w := by
  unfold sV
  go_simp
def encL (x : Str) : Array Value := #[sV x]
theorem idx_or (s : Str) : Lib.indexByte s 10 = -1 ∨ ∃ i : Nat, Lib.indexByte s 10 = (i : Int) := by
  have := Lib.indexByte_ge s 10
  by_cases h : Lib.indexByte s 10 = -1
  · exact .inl h
  · exact .inr ⟨(Lib.indexByte s 10).toNat, by omega⟩
theorem Fre.set {X B : Nat} {A : World} (h : Fre X A B) (v : Value) : Fre X (A.setCell ⟨B, 0, none⟩ v) B :=
  ⟨by simp [World.setCell]; exact h.lt, h.ne, fun ⟨u, h1, h2⟩ => h.no ⟨u, by
    rw [← h1]
    exact (World.cell?_of_block (a := ⟨X, 0, none⟩) (Below.heap_setCell _ _ _ X (fun e => h.ne e.symm))).symm, h2⟩⟩
set_option maxRecDepth 100000 in
set_option maxHeartbeats 4000000 in
theorem lines_all (n : Nat) (hn : 1 ≤ n) (w : World) (X Bs : Nat) (s : Str) (hl : s.length ≤ 1000000) (hbs : Boxed w Bs 9 (sV s)) (hX : X < w.heap.size) (fs : Fre X w Bs) (hob : ∀ k, Ob X w k → k < w.heap.size) :
    SeqAll Bs Fence.wide n Tryz.prog 52 #[.pointer (some ⟨Bs, 0, none⟩)] encL (fun _ _ => True) (Kx X) (fun xs => xs = lns s) 2000000 w := by
  intro l J W hW hwl hlW hJ hJ2 hY h0
  have hXW : X < W.heap.size := Nat.lt_of_lt_of_le hX hW.size
  have K0 : Kx X l w W := ⟨hW.os, hW.tape, hW.output, hW.size, fun k ⟨v, h1, h2⟩ => .inl ⟨v, by rw [← h1]; exact (hW.cell (p := ⟨X, 0, none⟩) hX).symm, h2⟩, fun k h1 _ _ _ => hW.block k h1, fun hb k ⟨v, h1, h2⟩ => Nat.lt_of_lt_of_le (hb k ⟨v, by rw [← h1]; exact (hW.cell (p := ⟨X, 0, none⟩) hX).symm, h2⟩) hW.size⟩
  have hBl : Bs ≠ l := by have := fs.lt; omega
  have HBX : Hid (Boxed W Bs 9 (sV s)) := hid (boxed_kx hbs K0 fs hBl)
  have HFS : Hid (Fre X W Bs) := hid (fs.kx K0)
  have HYY : Hid (∀ pre x W1, J pre W1 → pre.length < 2000000 → YieldAt Fence.wide (n - 1) Tryz.prog l (encL x) W1 fun e W' => e = .returned (.bool true) ∧ J (pre ++ [x]) W' ∧ Kx X l W1 W') := fun pre x W1 h1 h2 => hY pre x W1 h1 trivial h2
  have HJJ : Hid (∀ s A B, J s A → A.grownBy B none → J s B) := hJ
  have HJ2 : Hid (∀ s A B, J s A → A.grownBy B (some Bs) → J s B) := hJ2
  have HJ0 : Hid (J [] W) := h0
  have HSL : Hid (s.length ≤ 1000000) := hl
  have HX : Hid (X < W.heap.size) := hXW
  clear hJ hJ2 hY h0 fs hbs K0 hob hl
  refine callsIn_of_wp Tryz.func52 rfl trivial ?_ rfl
  simp only [Tryz.ntmps52, List.size_toArray, List.length_cons, List.length_nil, Nat.reduceAdd, Nat.reduceSub, Array.replicate_succ, Array.replicate_zero, List.push_toArray, List.append_toArray, List.nil_append, List.cons_append]
  gi_wp2
  gi_loopg [] s.length (fun k wr => ∃ (pre : List Str) (rest : Str), k = rest.length ∧ Hid (lns s = pre ++ lns rest) ∧ Hid (Boxed wr Bs 9 (sV rest)) ∧ Hid (Fre X wr Bs) ∧ Hid (J pre wr) ∧ Hid (X < wr.heap.size))
  case atStart => exact ⟨[], s, rfl, hid rfl, HBX, HFS, HJ0, HX⟩
  case round =>
    obtain ⟨pre, rest, hk, HL, HBR, HFR, HJR, HXR⟩ := hrel
    obtain ⟨T, HT⟩ : ∃ T, Hid (sV rest = T) := ⟨_, rfl⟩
    obtain ⟨N, HN⟩ : ∃ N, Hid (rest.length = N) := ⟨_, rfl⟩
    have hN : gk = N := hk.trans HN.out
    have hpl : pre.length < 2000000 := by
      have h1 := lns_few s
      rw [HL.out, List.length_append] at h1
      have := HSL.out
      omega
    have hln : ∀ (ty : TypeId) (w : World), (Builtin.len_ #[9] ty #[T]).run Tryz.prog w = .ok (.int .i64 (N : Int)) w := fun ty w => by rw [← HT.out, ← HN.out]; exact len_sV rest ty w
    have ks : wr.cell? ⟨Bs, 0, none⟩ = some T := by rw [← HT.out]; exact HBR.out.cell
    have fz : wr.frozen? ⟨Bs, 0, none⟩ = false := HBR.out.frozen
    by_cases hN0 : N = 0
    · have hNI : ¬ (0 : Int) < (N : Int) := by omega
      have HE : Hid (pre = lns s) := hid (by
        have h0 : rest = [] := List.length_eq_zero_iff.1 (by rw [HN.out]; exact hN0)
        have := HL.out
        rw [h0, lns_nil, List.append_nil] at this
        exact this.symm)
      gi_wp2
      go_end0
      rw [← HE.out]
      exact ⟨⟨_, rfl⟩, HJR.out⟩
    · have hNI : (0 : Int) < (N : Int) := by omega
      have hrne : rest ≠ [] := fun h => hN0 (by rw [← HN.out, h]; rfl)
      have C22 : Calls Tryz.prog 53 #[T, .int .u8 10] wr fun e w' => e = .returned (.int .i64 (Lib.indexByte rest 10)) ∧ w' = wr := by rw [← HT.out]; exact idx22 rest wr
      rcases idx_or rest with hix | ⟨i, hix⟩
      · rw [hix] at C22
        have HL5 : Hid (lns s = (pre ++ [rest]) ++ lns []) := hid (by rw [lns_nil, List.append_nil, ← lns_none rest hix hrne]; exact HL.out)
        clear hix
        gi_wp2_with (refine ⟨trivial, ?_⟩; gi_at_call 53; refine (callsIn_wide.2 C22).mono ?_; clear C22; rintro ev w1 ⟨rfl, rfl⟩)
        have HJ4 : Hid (J pre (w1.setCell ⟨Bs, 0, none⟩ (Value.string { data := #[] }))) := hid (HJ2.out _ _ _ HJR.out (grownBy_setCell' w1 Bs _))
        have HBX4 : Hid (Boxed (w1.setCell ⟨Bs, 0, none⟩ (Value.string { data := #[] })) Bs 9 (sV (([] : Str)))) := hid (Boxed.set _ HBR.out)
        have HFS4 : Hid (Fre X (w1.setCell ⟨Bs, 0, none⟩ (Value.string { data := #[] })) Bs) := hid (HFR.out.set _)
        have HX4 : Hid (X < (w1.setCell ⟨Bs, 0, none⟩ (Value.string { data := #[] })).heap.size) := hid (by simp [World.setCell]; exact HXR.out)
        generalize w1.setCell ⟨Bs, 0, none⟩ (Value.string { data := #[] }) = W4 at HJ4 HBX4 HFS4 HX4 ⊢
        clear ks fz HBR HFR HJR HXR
        obtain ⟨fn_, tmps, assign, body, hy, hRr⟩ := HYY.out pre (rest) W4 HJ4.out (by omega)
        have hRr2 : Hid (RoundIn Fence.wide (n - 1) Tryz.prog l fn_ tmps assign body W4 fun e W' => e = .returned (.bool true) ∧ J (pre ++ [rest]) W' ∧ Kx X l W4 W') := hid hRr
        rw [show encL (rest) = #[T] by unfold encL; rw [HT.out]] at hy
        clear hRr
        simp only [hy, go_sem]
        gi_wp2
        refine ⟨fun _ => hn, hRr2.out.mono ?_⟩
        rintro e1 W5 ⟨rfl, hJ5, hk5⟩
        have HBX5 : Hid (Boxed W5 Bs 9 (sV (([] : Str)))) := hid (boxed_kx HBX4.out hk5 HFS4.out hBl)
        have HFS5 : Hid (Fre X W5 Bs) := hid (HFS4.out.kx hk5)
        have HJ5 : Hid (J (pre ++ [rest]) W5) := hJ5
        have HX5 : Hid (X < W5.heap.size) := hid (Nat.lt_of_lt_of_le HX4.out hk5.size)
        clear hJ5 hk5
        gi_wp2
        gi_roundg (([] : Str)).length
        case measure => rw [hN]; show 0 < N; omega
        case rel => exact ⟨pre ++ [rest], ([] : Str), rfl, HL5, HBX5, HFS5, HJ5, HX5⟩
      · rw [hix] at C22
        obtain ⟨hil, hls⟩ := lns_some rest i hix
        rw [HN.out] at hil
        have HL5 : Hid (lns s = (pre ++ [rest.take (i + 1)]) ++ lns (rest.drop (i + 1))) := hid (by rw [HL.out, hls, List.append_assoc]; rfl)
        obtain ⟨T1, HT1⟩ : ∃ T, Hid (sV (rest.take (i + 1)) = T) := ⟨_, rfl⟩
        obtain ⟨B2, HT2⟩ : ∃ B, Hid (sV (rest.drop (i + 1)) = .string B) := ⟨_, rfl⟩
        have hs1 : ∀ w : World, (Instr.slice 9 T none (some (.int .i64 ((i : Int) + 1))) none).run Tryz.prog w = .ok T1 w := fun w => by rw [← HT.out, ← HT1.out]; exact slc_to rest (i + 1) _ (by omega) (by rw [HN.out]; omega) w
        have hs2 : ∀ w : World, (Instr.slice 9 T (some (.int .i64 ((i : Int) + 1))) none none).run Tryz.prog w = .ok (.string B2) w := fun w => by rw [← HT.out, ← HT2.out]; exact slc_from rest (i + 1) _ (by omega) (by rw [HN.out]; omega) w
        have hi4 : i ≤ 1000000 := by
          have h1 := lns_len s
          rw [HL.out, List.map_append, List.sum_append, lns_len, HN.out] at h1
          have := HSL.out
          omega
        have hiI : (0 : Int) ≤ (i : Int) := by omega
        have hwr : IntKind.i64.wrap ((i : Int) + 1) = (i : Int) + 1 := by rw [IntKind.wrap_i64]; omega
        clear hix hls
        gi_wp2_with (refine ⟨trivial, ?_⟩; gi_at_call 53; refine (callsIn_wide.2 C22).mono ?_; clear C22; rintro ev w1 ⟨rfl, rfl⟩)
        refine wpIn_wide.2 ?_
        have hS0 : w1.drew.cell? ⟨Bs, 0, none⟩ = some T := ks
        have hfz : w1.drew.frozen? ⟨Bs, 0, none⟩ = false := fz
        refine region_U (fun w' => w'.cell? ⟨Bs, 0, none⟩ = some T) 9 (by kernel_rfl) ?_
        have HJd : Hid (J pre w1.drew) := hid (HJJ.out _ _ _ HJR.out (grown_drewN1 w1))
        have HB4 : Hid (Boxed w1.drew Bs 9 (sV rest)) := HBR
        have HFRd : Hid (Fre X w1.drew Bs) := hid ⟨HFR.out.lt, HFR.out.ne, HFR.out.no⟩
        have HXd : Hid (X < w1.drew.heap.size) := HXR
        clear ks fz HBR HFR HJR HXR
        generalize w1.drew = w2 at hS0 hfz HJd HB4 HFRd HXd ⊢
        refine takeU (i := 0) (v := ?_) rfl (by kernel_rfl) (by kernel_rfl) (by kernel_rfl) (by kernel_rfl) (fun _ _ _ h => h) (Or.inl ⟨by rfl, ?_⟩) hS0 ?_
        rotate_left
        · intro w' s0; go_simp; first | rfl | (simp only [hwr, hs1, hs2, Result.andThen_ok]; rfl)
        try simp only [Act.put, List.setIfInBounds_toArray, List.set_cons_zero, List.set_cons_succ]
        refine takeU (i := 1) (v := ?_) rfl (by kernel_rfl) (by kernel_rfl) (by kernel_rfl) (by kernel_rfl) (fun _ _ _ h => h) (Or.inl ⟨by rfl, ?_⟩) hS0 ?_
        rotate_left
        · intro w' s0; go_simp; first | rfl | (simp only [hwr, hs1, hs2, Result.andThen_ok]; rfl)
        try simp only [Act.put, List.setIfInBounds_toArray, List.set_cons_zero, List.set_cons_succ]
        refine takeU (i := 2) (v := ?_) rfl (by kernel_rfl) (by kernel_rfl) (by kernel_rfl) (by kernel_rfl) (fun _ _ _ h => h) (Or.inl ⟨by rfl, ?_⟩) hS0 ?_
        rotate_left
        · intro w' s0; go_simp; first | rfl | (simp only [hwr, hs1, hs2, Result.andThen_ok]; rfl)
        try simp only [Act.put, List.setIfInBounds_toArray, List.set_cons_zero, List.set_cons_succ]
        refine takeU (i := 3) (v := ?_) rfl (by kernel_rfl) (by kernel_rfl) (by kernel_rfl) (by kernel_rfl) (fun _ _ _ h => h) (Or.inl ⟨by rfl, ?_⟩) hS0 ?_
        rotate_left
        · intro w' s0; go_simp; first | rfl | (simp only [hwr, hs1, hs2, Result.andThen_ok]; rfl)
        try simp only [Act.put, List.setIfInBounds_toArray, List.set_cons_zero, List.set_cons_succ]
        refine takeU (i := 4) (v := ?_) rfl (by kernel_rfl) (by kernel_rfl) (by kernel_rfl) (by kernel_rfl) (fun _ _ _ h => h) (Or.inl ⟨by rfl, ?_⟩) hS0 ?_
        rotate_left
        · intro w' s0; go_simp; first | rfl | (simp only [hwr, hs1, hs2, Result.andThen_ok]; rfl)
        try simp only [Act.put, List.setIfInBounds_toArray, List.set_cons_zero, List.set_cons_succ]
        refine takeU (i := 5) (v := ?_) rfl (by kernel_rfl) (by kernel_rfl) (by kernel_rfl) (by kernel_rfl) (fun _ _ _ h => h) (Or.inl ⟨by rfl, ?_⟩) hS0 ?_
        rotate_left
        · intro w' s0; go_simp; first | rfl | (simp only [hwr, hs1, hs2, Result.andThen_ok]; rfl)
        try simp only [Act.put, List.setIfInBounds_toArray, List.set_cons_zero, List.set_cons_succ]
        refine takeU (i := 6) (v := ?_) rfl (by kernel_rfl) (by kernel_rfl) (by kernel_rfl) (by kernel_rfl) (fun _ _ _ h => h) (Or.inl ⟨by rfl, ?_⟩) hS0 ?_
        rotate_left
        · intro w' s0; go_simp; first | rfl | (simp only [hwr, hs1, hs2, Result.andThen_ok]; rfl)
        try simp only [Act.put, List.setIfInBounds_toArray, List.set_cons_zero, List.set_cons_succ]
        refine takeU (i := 7) (v := ?_) rfl (by kernel_rfl) (by kernel_rfl) (by kernel_rfl) (by kernel_rfl) (fun _ _ _ h => h) (Or.inl ⟨by rfl, ?_⟩) hS0 ?_
        rotate_left
        · intro w' s0; go_simp; first | rfl | (simp only [hwr, hs1, hs2, Result.andThen_ok]; rfl)
        try simp only [Act.put, List.setIfInBounds_toArray, List.set_cons_zero, List.set_cons_succ]
        refine takeU (i := 8) (v := ?_) rfl (by kernel_rfl) (by kernel_rfl) (by kernel_rfl) (by kernel_rfl) (fun _ _ _ h => h) (Or.inl ⟨by rfl, ?_⟩) hS0 ?_
        rotate_left
        · intro w' s0; go_simp; first | rfl | (simp only [hwr, hs1, hs2, Result.andThen_ok]; rfl)
        try simp only [Act.put, List.setIfInBounds_toArray, List.set_cons_zero, List.set_cons_succ]
        refine readyU1 (i := 9) (by kernel_rfl) (consU rfl (fun KK hKK => ?_))
        go_simp
        refine hKK.out _ _ (.inl rfl) ?_
        clear hKK KK
        try simp only [Act.put, List.setIfInBounds_toArray, List.set_cons_zero, List.set_cons_succ]
        refine doneU (by kernel_rfl) ?_ _
        have HJ4 : Hid (J pre (w2.setCell ⟨Bs, 0, none⟩ (Value.string B2))) := hid (HJ2.out _ _ _ HJd.out (grownBy_setCell' w2 Bs _))
        have HBX4 : Hid (Boxed (w2.setCell ⟨Bs, 0, none⟩ (Value.string B2)) Bs 9 (sV (rest.drop (i + 1)))) := hid (HT2.out.symm ▸ Boxed.set (.string B2) HB4.out)
        have HFS4 : Hid (Fre X (w2.setCell ⟨Bs, 0, none⟩ (Value.string B2)) Bs) := hid (HFRd.out.set _)
        have HX4 : Hid (X < (w2.setCell ⟨Bs, 0, none⟩ (Value.string B2)).heap.size) := hid (by simp [World.setCell]; exact HXd.out)
        generalize w2.setCell ⟨Bs, 0, none⟩ (Value.string B2) = W4 at HJ4 HBX4 HFS4 HX4 ⊢
        simp only [Exit.then]
        gi_wp2
        obtain ⟨fn_, tmps, assign, body, hy, hRr⟩ := HYY.out pre (rest.take (i + 1)) W4 HJ4.out (by omega)
        have hRr2 : Hid (RoundIn Fence.wide (n - 1) Tryz.prog l fn_ tmps assign body W4 fun e W' => e = .returned (.bool true) ∧ J (pre ++ [rest.take (i + 1)]) W' ∧ Kx X l W4 W') := hid hRr
        rw [show encL (rest.take (i + 1)) = #[T1] by unfold encL; rw [HT1.out]] at hy
        clear hRr
        simp only [hy, go_sem]
        gi_wp2
        refine ⟨fun _ => hn, hRr2.out.mono ?_⟩
        rintro e1 W5 ⟨rfl, hJ5, hk5⟩
        have HBX5 : Hid (Boxed W5 Bs 9 (sV (rest.drop (i + 1)))) := hid (boxed_kx HBX4.out hk5 HFS4.out hBl)
        have HFS5 : Hid (Fre X W5 Bs) := hid (HFS4.out.kx hk5)
        have HJ5 : Hid (J (pre ++ [rest.take (i + 1)]) W5) := hJ5
        have HX5 : Hid (X < W5.heap.size) := hid (Nat.lt_of_lt_of_le HX4.out hk5.size)
        clear hJ5 hk5
        gi_wp2
        gi_roundg (rest.drop (i + 1)).length
        case measure => rw [List.length_drop, HN.out, hN]; omega
        case rel => exact ⟨pre ++ [rest.take (i + 1)], rest.drop (i + 1), rfl, HL5, HBX5, HFS5, HJ5, HX5⟩
end Go.Proofs.YtmpjapcijjjlbaaGreatDoor
namespace Go.Proofs.YtmpjapcijjjlbaaGreatDoor
open Go.RowKit Go.Shelf
set_option linter.unusedVariables false
set_option linter.unusedSectionVars false
set_option linter.unusedSimpArgs false
attribute [local go_sem] Oper.semAt_some
def fS (es : List Str) : List Value := es.flatMap encS
theorem fS_snoc (es : List Str) (x : Str) : fS (es ++ [x]) = fS es ++ [sV x] := by simp [fS, encS]
def CoI (w : World) (X : Nat) (v : Value) (pre : List Str) (W : World) : Prop :=
  ∃ u, Boxed W X 40 u ∧ W.ownsRow X 9 1 u pre.length (fS pre) ∧ Mv w W v u
theorem CoI.grow {w : World} {X : Nat} {v : Value} (s : List Str) (A C : World) (h : CoI w X v s A) (hg : A.grownBy C none) : CoI w X v s C := by
  obtain ⟨u, h1, h2, h3⟩ := h
  exact ⟨u, h1.kept hg (by simp), h2.kept hg (by cases e : u.ownBlock <;> simp), h3.trans (Mv.grow u hg)⟩
theorem CoI.turn {w : World} {X Bs : Nat} {v : Value} (hw : w.heap.size ≤ Bs) (hB : Bs < X) (s : List Str) (A C : World) (h : CoI w X v s A) (hg : A.grownBy C (some Bs)) : CoI w X v s C := by
  obtain ⟨u, h1, h2, h3⟩ := h
  refine ⟨u, h1.kept hg (fun e => by cases e; omega), h2.kept hg ?_, ⟨hg.os.trans h3.os, hg.tape.trans h3.tape, hg.output.trans h3.output, Nat.le_trans h3.size hg.size, fun k hk hn => (hg.block k (Nat.lt_of_lt_of_le hk h3.size) (fun e => by cases e; omega)).trans (h3.blk k hk hn), h3.at_⟩⟩
  cases e : u.ownBlock with
  | none => exact .inl rfl
  | some k => exact .inr (fun e2 => by cases e2; have := (h2.lt _ e).1; omega)
theorem CoI.put {w : World} {X : Nat} {v : Value} {n : Nat} (hX : X < n) (hw : w.heap.size ≤ n) (s : List Str) (l : Nat) (W : World) (r r' : Loop) (hl : n ≤ l) (hr : W.heap[l]? = some (.loop r)) (h : CoI w X v s W) : CoI w X v s (W.putObj l (.loop r')) := by
  obtain ⟨u, h1, h2, h3⟩ := h
  exact ⟨u, (World.putObj_heap_other (by omega)).trans h1, ownsRow_putObj h2 _ hr rfl, h3.put _ (by omega)⟩
theorem Tryz.results51 : Tryz.f51.results = #[.tmp 4] := by kernel_rfl
def PostK (l : List Str) (w00 w : World) (e : Ending) (w' : World) : Prop := ∃ v', e = .returned v' ∧ w'.ownsRow w.heap.size 9 1 v' l.length (fS l) ∧ Below w00.heap.size w00 w'
set_option maxRecDepth 100000 in
set_option maxHeartbeats 4000000 in
theorem appendSeq_any (Bs : Nat) (s : Str) (hl : s.length ≤ 1000000) (w00 w : World) (hb0 : Below w00.heap.size w00 w) (hB0 : w00.heap.size ≤ Bs) (hbs : Boxed w Bs 9 (sV s)) :
    Calls Tryz.prog 51 #[.slice none 0 0, .func (.func 52) #[] #[.pointer (some ⟨Bs, 0, none⟩)]] w (PostK (lns s) w00 w) := by
  obtain ⟨i9, hq, hz0, hz1, hz2⟩ := info_parts Tryz.info9
  have HI : Hid (Tryz.prog.info? 9 = some i9) := hq
  have HZ0 : Hid (i9.zero = some (.string ⟨#[]⟩)) := hz0
  have HZ1 : Hid (i9.size = 1) := hz1
  have HZ2 : Hid (i9.bytes = 16) := hz2
  clear hq hz0 hz1 hz2
  have HBS : Hid (Boxed w Bs 9 (sV s)) := hbs
  have HB0 : Hid (Below w00.heap.size w00 w) := hb0
  have hs0 := hb0.size
  clear hbs hb0
  refine (callsIn_wide (n := 3)).1 ?_
  refine callsIn_of_wp_marks Tryz.func51 rfl trivial ?_ rfl
  simp only [Tryz.ntmps51, List.size_toArray, List.length_cons, List.length_nil, Nat.reduceAdd, Nat.reduceSub, Array.replicate_succ, Array.replicate_zero, List.push_toArray, List.append_toArray, List.nil_append, List.cons_append]
  gi_wp2
  obtain ⟨X, HX⟩ : ∃ X, Hid (X = w.heap.size) := ⟨_, rfl⟩
  obtain ⟨WL, HWL⟩ : ∃ WL, Hid (w.alloc (.cells #[.slice none 0 0] 40) = WL) := ⟨_, rfl⟩
  have hgw : w.grownBy WL none := by rw [← HWL.out]; exact hg_alloc w _
  have hsz : WL.heap.size = X + 1 := by rw [← HWL.out, HX.out]; simp
  have bX : Boxed WL X 40 (.slice none 0 0) := by rw [← HWL.out, HX.out]; exact Boxed.new w 40 _
  have hno : ∀ k, ¬ Ob X WL k := fun k ⟨u, h1, h2⟩ => by rw [bX.cell] at h1; cases h1; cases h2
  have hM0 : Mv w00 w (.slice none 0 0) (.slice none 0 0) := ⟨HB0.out.os, HB0.out.tape, HB0.out.output, HB0.out.size, fun k hk _ => HB0.out.block k hk, .inl rfl⟩
  have hI0 : CoI w00 X (.slice none 0 0) [] WL := ⟨_, bX, World.ownsRow_nil _ _ _ _, hM0.trans (Mv.grow _ hgw)⟩
  have bS : Boxed WL Bs 9 (sV s) := HBS.out.kept hgw (by simp)
  have hBsX : Bs < X := by rw [HX.out]; exact HBS.out.lt
  rw [HWL.out]
  rw [← HX.out]
  have hXw : w.heap.size ≤ X := by rw [HX.out]; exact Nat.le_refl _
  have hX00 : w00.heap.size ≤ X := by omega
  refine range_allA (F := Fence.wide) (n := 3) rfl (by omega) (gf := 52) (lb := #[.pointer (some ⟨Bs, 0, none⟩)]) rfl trivial (enters_of Tryz.func52 (by kernel_rfl) rfl) (Bs := Bs) (by omega)
    (lines_all 2 (by omega) WL X Bs s hl bS (by omega) ⟨by omega, by omega, hno _⟩ (fun k hk => absurd hk (hno k)))
    (fun _ => rfl) Kx.trans (fun l W r r' hl _ => Kx.loop (r := r) (by omega)) (fun l W r r' x hl hr hf => trivial)
    (CoI w00 X (.slice none 0 0)) (fun s A C h hg => CoI.grow s A C h hg) (fun s A C h hg => CoI.turn hB0 hBsX s A C h hg) (fun s l W r r' hl hr h => CoI.put (n := WL.heap.size) (by omega) (by omega) s l W r r' hl hr h) hI0
    (fun x W => { tmps := #[.slice none 0 0, .func (.func 52) #[] #[.pointer (some ⟨Bs, 0, none⟩)], .pointer (some ⟨X, 0, none⟩), undef, .slice none 0 0, sV x, .func (.func 52) #[] #[.pointer (some ⟨Bs, 0, none⟩)], sV x, undef, undef, undef, undef, undef], defers := [] }) (fun x W => W) ?_ ?_ (fun x W h => trivial) ?assign ?body ?done
  · intro x W; exact ⟨rfl, rfl, rfl, Nat.le_refl _, fun _ _ _ => rfl⟩
  · intro l x W h1 h2; exact Kx.refl _ _ _
  case assign =>
    intro l x W K _ hK
    dsimp only [encL]
    gi_wp2
    exact hK
  case body =>
    rintro l pre x W0 W hlX hlW0 hoth ⟨u, b1, o1, m1⟩ _ hlen hlW hsW
    have hlX' : X + 1 ≤ l := by omega
    clear hsz
    obtain ⟨N, HN⟩ : ∃ N, Hid (N = pre.length) := ⟨_, rfl⟩
    obtain ⟨L, HL⟩ : ∃ L, Hid (L = fS pre) := ⟨_, rfl⟩
    have hN : N ≤ 2000000 := by rw [HN.out]; omega
    rw [← HN.out, ← HL.out] at o1
    obtain ⟨ua, uc, rfl⟩ := owns_shape o1
    obtain ⟨T, HT⟩ : ∃ T : Value, Hid (sV x = T) := ⟨_, rfl⟩
    have HRB : Hid (∀ W, (Instr.buildSlice 40 1 #[(0, T)]).run Tryz.prog W = .ok (.slice (some ⟨W.heap.size, 0, none⟩) 1 1) (W.alloc (.cells #[T] 9))) := fun W => by rw [← HT.out]; exact run_build24 x W
    have HT1 : Hid (∀ v ∈ [T], v.oneCell' = true) := fun v hv => by rw [List.mem_singleton.1 hv, ← HT.out]; rfl
    have hXne : some X ≠ (Value.slice ua N uc).ownBlock := b1.not_row (by decide) o1
    have k0 := b1.cell
    have f0 := b1.frozen
    have hBW : X ≤ W.heap.size := by have := b1.lt; omega
    have HO1 : Hid (W.ownsRow X 9 1 (.slice ua N uc) N L) := o1
    have HB1 : Hid (Boxed W X 40 (.slice ua N uc)) := b1
    have HM1 : Hid (Mv w00 W (.slice none 0 0) (.slice ua N uc)) := m1
    have HNR : Hid (∀ j z, [T][j]? = some z → (W.alloc (.cells #[T] 9)).cell? ((⟨W.heap.size, 0, none⟩ : Addr).add j) = some z) := news_rowE W [T] 9
    clear o1 b1 m1 hoth
    rw [HT.out]
    gi_wp2_with (first
      | refine wpListIn_buildSlice rfl 40 1 _ rfl T _ rfl (HRB.out _) ?_
      | (gi_at_builtin; refine wpListIn_append_own_at _ rfl _ _ 40 rfl X 9 i9 (.string ⟨#[]⟩) 1 16 und24 HI.out HZ0.out HZ1.out HZ2.out rfl (by decide) _ N L rfl (HO1.out.alloc _) ⟨W.heap.size, 0, none⟩ 1 1 [T] rfl rfl HNR.out HT1.out (by unfold maxLen; omega) (by omega) (by simp; omega) ?_; intro v1 w1 ho1 hg1 hn1 hl1; obtain ⟨a1, c1, rfl⟩ := owns_shape ho1; have HV1 : Hid (Mv W w1 (.slice ua N uc) (.slice a1 (N + 1 : Nat) c1)) := Mv.app (hg_alloc W _) hg1 hl1; have HW1 : Hid (w1.ownsRow X 9 1 (.slice a1 (N + 1 : Nat) c1) (N + 1) (L ++ [T])) := ho1; clear ho1 hg1 hn1 hl1; have HB2 : Hid (Boxed w1 X 40 (.slice ua N uc)) := (HV1.out.blk X HB1.out.lt hXne).trans HB1.out; have kx1 := HB2.out.cell; have fx1 := HB2.out.frozen))
    have K1 := keeps_mv HB1.out HO1.out HV1.out WL.heap.size
    have X1 : Kx X l W (w1.setCell ⟨X, 0, none⟩ (.slice a1 (N + 1 : Nat) c1)) := Kx.mv HB1.out HV1.out hXne (fun k hk => (HW1.out.lt k hk).2)
    have hS3 : some X ≠ (Value.slice a1 (N + 1 : Nat) c1).ownBlock := Boxed.not_row HB2.out (by decide) HW1.out
    refine ⟨K1, X1, _, Boxed.set _ HB2.out, ?_, (HM1.out.trans HV1.out).store hX00 _⟩
    rw [List.length_append, fS_snoc, ← HN.out, ← HL.out, HT.out]
    exact HW1.out.kept (grownBy_setCell' w1 X (.slice a1 (N + 1 : Nat) c1)) (.inr (Ne.symm hS3))
  case done =>
    rintro D xs W hD hS ⟨u, b1, o1, m1⟩ hK
    subst hS
    obtain ⟨ua, uc, rfl⟩ := owns_shape o1
    have k0 := b1.cell
    have HK : Hid (W.heap[D]? = some (.deferred (some []))) := hK
    have hwD : w00.heap.size ≤ D := by omega
    gi_wp2
    refine ret_1 Tryz.results51 _ _ D (.slice ua (lns s).length uc) rfl HK.out _ ⟨_, rfl, ?_, (m1.put _ hwD).below (fun k hk => by cases hk) (Nat.le_refl _)⟩
    rw [← HX.out]
    exact ownsRow_putObj o1 _ HK.out rfl
end Go.Proofs.YtmpjapcijjjlbaaGreatDoor
