import Derived.Test.YtcicoeneemnbiaaGreatDoorMw15
import Derived.Maps.OwnIn
import Derived.Great.BuildSlice
import Derived.Test.YtcicoeneemnbiaaGreatDoorMw05
import Derived.Sort.Statements
import Derived.Shelf.SlSortCmp.NoneTotal
namespace Go.Proofs.YtcicoeneemnbiaaGreatDoor
open Go.RowKit Go.Shelf
set_option linter.unusedVariables false
set_option linter.unusedSectionVars false
set_option linter.unusedSimpArgs false
theorem PY.kx {X l : Nat} {A B : World} {a : Option Addr} {cap : Nat} {es : List Ey} (h : PY A a cap es) (hk : Kx X l A B) (hf : 0 < es.length → ∀ p : Addr, a = some p → Fre X A p.block ∧ p.block ≠ l) : PY B a cap es :=
  ⟨h.capl, fun h0 => by
    obtain ⟨b, off, e1, e2, e3⟩ := h.at_ h0
    obtain ⟨f1, f2⟩ := hf h0 _ e1
    exact ⟨b, off, e1, Nat.lt_of_lt_of_le e2 hk.size, fun i hi j v hv => (World.cell?_of_block (a := ⟨b, off + i * 24 + j, none⟩) (hk.blk b f1.lt f1.ne f2 f1.no)).trans (e3 i hi j v hv)⟩, h.nil⟩
def encE (x : Ey) : Array Value := #[.agg (encY x).toArray]
theorem zero32 (w : World) : (zeroValue 32).run Tryz.prog w = .ok (.agg (encY dY).toArray) w := by kernel_rfl
theorem wpListIn_load_mid {F : Fence} {nF : Nat} {P : Program} {ops : Array Oper} {rest : List Oper} {op : Oper} {a : Act} {w : World} {Q : Exit → Act → World → Prop} (hgd : op.guard = none) (ty : TypeId) (x : Operand) (ho : op.op = .load ty x)
    (b o : Nat) (hx : a.eval x = .pointer (some ⟨b, o, none⟩)) (cs : List Value) (d : TypeDesc) (hc : w.rangeAt b o cs)
    (hu : P.underlying ty = some d) (hd : d.isRow = true) (hi : (P.info? ty).map (·.size) = some cs.length)
    (h : wpListIn F nF P ops Q rest (a.put op.dst (.agg cs.toArray)) w) : wpListIn F nF P ops Q (op :: rest) a w := by
  refine wpListIn_plain hgd fun K hK => ?_
  unfold Oper.wpIn
  refine ⟨by simp [Oper.about, ho], ?_⟩
  rw [Oper.semAt_plain F _ _ (by rw [ho]; intro c hc'; cases hc')]
  unfold execOp
  simp only [ho, hx, Instr.loadAt, Instr.sureAddr, Sem.run_bind, Sem.run_pure, Result.andThen_ok, run_loadVar_mid w b o ty cs d hc hu hd hi]
  exact hK _ _ h
theorem wpListIn_store_row {F : Fence} {nF : Nat} {P : Program} {ops : Array Oper} {rest : List Oper} {o : Oper} {a : Act} {w : World} {Q : Exit → Act → World → Prop} (hgd : o.guard = none) (ty : TypeId) (x y : Operand) (ho : o.op = .store ty x y)
    (g : Nat) (cells : Array Value) (hx : a.eval x = .pointer (some ⟨g, 0, none⟩)) (hy : a.eval y = .agg cells)
    (t : TypeId) (old : Array Value) (hg : w.heap[g]? = some (.cells old t (0, 0))) (hi : (P.info? ty).map (·.size) = some cells.size)
    (hold : old.size = cells.size) (h1 : cells.all (·.oneCell') = true)
    (h : wpListIn F nF P ops Q rest (a.put o.dst undef) (w.setRow g cells)) : wpListIn F nF P ops Q (o :: rest) a w := by
  refine wpListIn_plain hgd fun K hK => ?_
  unfold Oper.wpIn
  refine ⟨by simp [Oper.about, ho], ?_⟩
  rw [Oper.semAt_plain F _ _ (by rw [ho]; intro c hc'; cases hc')]
  unfold execOp
  simp only [ho, hx, hy, Instr.storeAt, Instr.sureAddr, Sem.run_bind, Sem.run_pure, Result.andThen_ok, run_storeVar_row w g t ty old cells hg hi hold h1]
  exact hK _ _ h
set_option maxRecDepth 100000 in
set_option maxHeartbeats 4000000 in
theorem values_all (n : Nat) (hn : 1 ≤ n) (w : World) (X Bs : Nat) (a : Option Addr) (cap : Nat) (es : List Ey) (hwf : WY es) (hP : PY w a cap es) (hl : es.length ≤ 1000) (hbs : Boxed w Bs 22 (.slice a es.length cap))
    (hX : X < w.heap.size) (fs : Fre X w Bs) (fa : 0 < es.length → ∀ p : Addr, a = some p → Fre X w p.block) :
    SeqAll Fence.wide n Tryz.prog 48 #[.pointer (some ⟨Bs, 0, none⟩)] encE (fun x _ => x.id.length = 20) (Kx X) (fun xs => xs = es) es.length w := by
  intro l J W hW hwl hlW hJ hY h0
  have hXW : X < W.heap.size := Nat.lt_of_lt_of_le hX hW.size
  have K0 : Kx X l w W := ⟨hW.os, hW.tape, hW.output, hW.size, fun k ⟨v, h1, h2⟩ => .inl ⟨v, by rw [← h1]; exact (hW.cell (p := ⟨X, 0, none⟩) hX).symm, h2⟩, fun k h1 _ _ _ => hW.block k h1, fun hb k ⟨v, h1, h2⟩ => Nat.lt_of_lt_of_le (hb k ⟨v, by rw [← h1]; exact (hW.cell (p := ⟨X, 0, none⟩) hX).symm, h2⟩) hW.size⟩
  obtain ⟨L, HL⟩ : ∃ L, Hid (es.length = L) := ⟨_, rfl⟩
  have hL : L ≤ 1000 := by rw [← HL.out]; exact hl
  have ks : W.cell? ⟨Bs, 0, none⟩ = some (.slice a L cap) := by rw [← HL.out]; exact (boxed_kx hbs K0 fs (by have := fs.lt; omega)).cell
  obtain ⟨zr, HZ⟩ : ∃ zr : Array Value, Hid (zr = (encY dY).toArray) := ⟨_, rfl⟩
  have hz51 : ∀ w : World, (zeroValue 32).run Tryz.prog w = .ok (.agg zr) w := fun w => by rw [HZ.out]; exact zero32 w
  have HPE : Hid (∀ B, Kx X l w B → PY B a cap es) := fun B hk => hP.kx hk (fun h0 p hp => ⟨fa h0 p hp, by have := (fa h0 p hp).lt; omega⟩)
  refine callsIn_of_wp Tryz.func48 rfl trivial ?_ rfl
  simp only [Tryz.ntmps48, List.size_toArray, List.length_cons, List.length_nil, Nat.reduceAdd, Nat.reduceSub, Array.replicate_succ, Array.replicate_zero, List.push_toArray, List.append_toArray, List.nil_append, List.cons_append]
  gi_wp2
  gi_loopg [7] L (fun k v wr => ∃ (i : Nat), v = .int .i64 i ∧ k = L - i ∧ i ≤ L ∧ Hid (Kx X l w wr) ∧ Hid (J (es.take i) wr))
  case atStart => exact ⟨0, rfl, rfl, by omega, K0, h0⟩
  case round =>
    obtain ⟨i, rfl, hk, hi, HK, HJ⟩ := hrel
    by_cases hiL : i < L
    · have hiI : (i : Int) < L := by omega
      obtain ⟨b, off, hae, hbG, hat⟩ := (HPE.out wr HK.out).at_ (by rw [HL.out]; omega)
      subst hae
      obtain ⟨x, HX⟩ : ∃ x, Hid (es.getD i dY = x) := ⟨_, rfl⟩
      have hxm : x ∈ es := by
        rw [← HX.out, List.getD_eq_getElem?_getD, List.getElem?_eq_getElem (by rw [HL.out]; exact hiL)]
        exact List.getElem_mem _
      have hx20 := hwf x hxm
      obtain ⟨R, HR⟩ : ∃ R : List Value, Hid (encY x = R) := ⟨_, rfl⟩
      have RR : Hid (wr.rangeAt b (off + i * 24) R) := hid (by rw [← HR.out, ← HX.out]; exact hat i (by rw [HL.out]; exact hiL))
      have HFN : Hid (R.length = 24) := hid (by rw [← HR.out]; exact encY_len x hx20)
      have hi51 : (Tryz.prog.info? 32).map (·.size) = some R.length := by rw [HFN.out]; exact info32
      have I51 : Hid ((Tryz.prog.info? 32).map (·.size) = some R.toArray.size) := hid (by rw [List.size_toArray]; exact hi51)
      have E51 : Hid (zr.size = R.toArray.size) := hid (by rw [HZ.out, List.size_toArray, List.size_toArray, HFN.out]; rfl)
      have O51 : Hid (R.toArray.all (·.oneCell') = true) := hid (by rw [← HR.out]; exact all_oneCell_toArray (encY_one _))
      have D0 : Hid ((wr.alloc (.cells zr 32)).heap[wr.heap.size]? = some (.cells zr 32 (0, 0))) := heap_alloc_new wr _
      obtain ⟨w2, HW2⟩ : ∃ w2, Hid ((wr.alloc (.cells zr 32)).setRow wr.heap.size R.toArray = w2) := ⟨_, rfl⟩
      obtain ⟨H, HH⟩ : ∃ H, Hid (wr.heap.size = H) := ⟨_, rfl⟩
      have hb2 : Below wr.heap.size wr w2 := by rw [← HW2.out]; exact below_setRow ((Below.refl _ wr).alloc (Nat.le_refl _) _) (Nat.le_refl _) _
      have hg2 : wr.grownBy w2 none := grown_of_below hb2 _
      have R2 : Hid (w2.rangeAt H 0 R) := hid (by rw [← HW2.out, ← HH.out]; exact range_row (setRow_heap _ _ _ R.toArray _ _ D0.out))
      have HPI : Hid ((es.take i).length < es.length) := hid (by rw [List.length_take, HL.out]; omega)
      obtain ⟨fn_, tmps, assign, body, hy, hRr⟩ := hY (es.take i) x w2 (hJ _ _ _ HJ.out hg2) hx20 HPI.out
      have HKg : Hid (Kx X l w w2) := HK.out.trans (Kx.grow (Nat.lt_of_lt_of_le hX HK.out.size) hg2)
      have HTK : Hid (es.take i ++ [x] = es.take (i + 1)) := hid (by rw [take_snocG dY es i (by rw [HL.out]; exact hiL), HX.out])
      have hRr2 : Hid (RoundIn Fence.wide (n - 1) Tryz.prog l fn_ tmps assign body w2 fun e W' => e = .returned (.bool true) ∧ J (es.take i ++ [x]) W' ∧ Kx X l w2 W') := hid hRr
      rw [show encE x = #[.agg R.toArray] by unfold encE; rw [HR.out]] at hy
      clear hg2 hb2 hat hxm hRr
      gi_wp2_with (first
        | refine wpListIn_load_mid rfl 32 _ rfl b (off + i * 24) rfl R _ RR.out Tryz.underlying32 rfl hi51 ?_
        | (refine wpListIn_store_row rfl 32 _ _ rfl wr.heap.size R.toArray rfl rfl 32 zr D0.out I51.out E51.out O51.out ?_; rw [HW2.out, HH.out])
        | refine wpListIn_load_mid rfl 32 _ rfl H 0 rfl R _ R2.out Tryz.underlying32 rfl hi51 ?_)
      refine hRr2.out.mono ?_
      rintro e1 W3 ⟨rfl, hJ3, hk3⟩
      have HK3 : Hid (Kx X l w W3) := HKg.out.trans hk3
      have HJ3 : Hid (J (es.take (i + 1)) W3) := hid (by rw [← HTK.out]; exact hJ3)
      clear hJ3 hk3
      gi_wp2
      gi_roundg (L - (i + 1))
      case measure => omega
      case rel => exact ⟨i + 1, by go_num, rfl, by omega, HK3, HJ3⟩
    · have hiI : ¬ (i : Int) < L := by omega
      have hin : i = L := by omega
      gi_wp2
      go_end0
      have := HJ.out
      rw [List.take_of_length_le (by rw [HL.out]; omega)] at this
      exact ⟨⟨_, rfl⟩, this⟩
end Go.Proofs.YtcicoeneemnbiaaGreatDoor
namespace Go.Proofs.YtcicoeneemnbiaaGreatDoor
open Go.RowKit Go.Shelf Go.Maps
set_option linter.unusedVariables false
set_option linter.unusedSectionVars false
set_option linter.unusedSimpArgs false
attribute [local go_sem] Oper.semAt_some
structure Mv (w w' : World) (v v' : Value) : Prop where
  os : w'.os = w.os
  tape : w'.tape = w.tape
  output : w'.output = w.output
  size : w.heap.size ≤ w'.heap.size
  blk : ∀ k, k < w.heap.size → some k ≠ v.ownBlock → w'.heap[k]? = w.heap[k]?
  at_ : v'.ownBlock = v.ownBlock ∨ ∀ k, v'.ownBlock = some k → w.heap.size ≤ k
theorem Mv.refl (w : World) (v : Value) : Mv w w v v := ⟨rfl, rfl, rfl, Nat.le_refl _, fun _ _ _ => rfl, .inl rfl⟩
theorem Mv.trans {a b c : World} {u v x : Value} (h : Mv a b u v) (k : Mv b c v x) : Mv a c u x := by
  have hs := h.size
  refine ⟨k.os.trans h.os, k.tape.trans h.tape, k.output.trans h.output, Nat.le_trans h.size k.size, fun i hi hn => ?_, ?_⟩
  · refine (k.blk i (by omega) (fun e => ?_)).trans (h.blk i hi hn)
    rcases h.at_ with g | g
    · exact hn (e.trans g)
    · have := g i e.symm; omega
  · rcases k.at_ with g | g
    · rcases h.at_ with g' | g'
      · exact .inl (g.trans g')
      · exact .inr fun i hi => g' i (g ▸ hi)
    · exact .inr fun i hi => by have := g i hi; omega
theorem Mv.app {w wx w1 : World} {v v' : Value} (h0 : w.grownBy wx none) (hg : wx.grownBy w1 v.ownBlock) (hl : v'.ownBlock = v.ownBlock ∨ v'.ownBlock = some wx.heap.size) : Mv w w1 v v' := by
  have hs := h0.size
  refine ⟨hg.os.trans h0.os, hg.tape.trans h0.tape, hg.output.trans h0.output, Nat.le_trans h0.size hg.size, fun k hk hn => (hg.block k (by omega) hn).trans (h0.block k hk (by simp)), ?_⟩
  rcases hl with h | h
  · exact .inl h
  · exact .inr fun k hk => by rw [h] at hk; simp at hk; omega
theorem Mv.below {w w' : World} {v v' : Value} (h : Mv w w' v v') {B : Nat} (hB : ∀ k, v.ownBlock = some k → B ≤ k) (hw : B ≤ w.heap.size) : Below B w w' :=
  ⟨h.os, h.tape, h.output, h.size, fun k hk => h.blk k (by omega) (fun e => by have := hB k e.symm; omega)⟩
theorem Mv.drew {w w' : World} {v v' : Value} (h : Mv w w' v v') (n : Nat) : Mv w (w'.drewN n) v v' := ⟨h.os, h.tape, h.output, h.size, h.blk, h.at_⟩
theorem Kx.mv {X l : Nat} {W W1 : World} {v v1 : Value} (hb : Boxed W X 22 v) (h : Mv W W1 v v1) (hne : some X ≠ v.ownBlock) (hlt : ∀ k, v1.ownBlock = some k → k < W1.heap.size) : Kx X l W (W1.setCell ⟨X, 0, none⟩ v1) := by
  have hX := hb.lt
  have hs := h.size
  have hb1 : W1.heap[X]? = W.heap[X]? := h.blk X hX hne
  have hc : (W1.setCell ⟨X, 0, none⟩ v1).cell? ⟨X, 0, none⟩ = some v1 := World.cell?_setCell_same (u := v) _ _ _ ((World.cell?_of_block (a := ⟨X, 0, none⟩) hb1).trans hb.cell)
  refine ⟨h.os, h.tape, h.output, by simp [World.setCell]; exact hs, fun k ⟨u, h1, h2⟩ => ?_, fun k h1 h2 h3 h4 => ?_, fun _ k ⟨u, h1, h2⟩ => by rw [hc] at h1; cases h1; simp [World.setCell]; exact hlt k h2⟩
  · rw [hc] at h1
    cases h1
    rcases h.at_ with g | g
    · exact .inl ⟨v, hb.cell, by rw [← g]; exact h2⟩
    · exact .inr (g k h2)
  · rw [Below.heap_setCell _ _ _ k h2]
    exact h.blk k h1 (fun e => h4 ⟨v, hb.cell, e.symm⟩)
theorem Mv.grow {A B : World} (v : Value) (h : A.grownBy B none) : Mv A B v v := ⟨h.os, h.tape, h.output, h.size, fun k hk _ => h.block k hk (by simp), .inl rfl⟩
theorem Mv.put {w W : World} {v u : Value} (h : Mv w W v u) {l : Nat} (o : Obj) (hl : w.heap.size ≤ l) : Mv w (W.putObj l o) v u :=
  ⟨h.os, h.tape, h.output, by rw [World.putObj_size]; exact h.size, fun k hk hn => (World.putObj_heap_other (by omega)).trans (h.blk k hk hn), h.at_⟩
theorem owns_cells {W : World} {B : Nat} {u : Value} {n : Nat} {xs : List Value} (h : W.ownsRow B 32 24 u n xs) {k : Nat} (hk : u.ownBlock = some k) : ∃ cur, W.heap[k]? = some (.cells cur 32 (0, 0)) := by
  obtain ⟨_, ⟨rfl, _⟩ | ⟨g, cap, cur, rfl, _, h2, _⟩⟩ := h
  · cases hk
  · simp [Value.ownBlock] at hk; subst hk; exact ⟨cur, h2⟩
theorem keeps_mv {W W1 : World} {X : Nat} {u u1 : Value} {B n : Nat} {xs : List Value} (hb : Boxed W X 22 u) (ho : W.ownsRow B 32 24 u n xs) (h : Mv W W1 u u1) (Bx : Nat) : KeepsFrom Bx W (W1.setCell ⟨X, 0, none⟩ u1) := by
  refine ⟨by simp [World.setCell]; exact h.size, fun k o _ hk hc => ?_⟩
  have hkX : k ≠ X := fun e => by rw [e, show W.heap[X]? = _ from hb] at hk; cases hk; cases hc
  rw [Below.heap_setCell _ _ _ k hkX, h.blk k (Array.getElem?_eq_some_iff.1 hk).1 (fun e => ?_)]
  · exact hk
  · obtain ⟨cur, hcur⟩ := owns_cells ho e.symm
    rw [hcur] at hk; cases hk; cases hc
theorem Mv.store {w W1 : World} {v u1 : Value} (h : Mv w W1 v u1) {X : Nat} (hX : w.heap.size ≤ X) (y : Value) : Mv w (W1.setCell ⟨X, 0, none⟩ y) v u1 :=
  ⟨h.os, h.tape, h.output, by simp [World.setCell]; exact h.size, fun k hk hn => (Below.heap_setCell _ _ _ k (by show k ≠ X; omega)).trans (h.blk k hk hn), h.at_⟩
theorem results_1 {fn : Func} {p : Tmp} (h : fn.results = #[.tmp p]) (tmps : Array Value) (w : World) (x : Value) (hp : tmps.getD p undef = x) : (results fn tmps).run Tryz.prog w = .ok x w := by
  have hp' : tmps[p]?.getD undef = x := by simpa using hp
  simp [results, h, hp']
theorem ret_1 {fn : Func} {p : Tmp} (h : fn.results = #[.tmp p]) (tmps : Array Value) (W : World) (D : Nat) (x : Value) (hp : tmps.getD p undef = x) (hK : W.heap[D]? = some (.deferred (some []))) (R : Ending → World → Prop) (hR : R (.returned x) (W.putObj D (.deferred none))) :
    bodyPostM Fence.wide 3 Tryz.prog fn R .ret { tmps := tmps, defers := [{ target := .collected D, args := #[] }] } W :=
  ⟨by simp, .inl ⟨_, _, rfl, run_takeDeferred hK, _, results_1 h _ _ _ hp, hR⟩⟩
theorem Tryz.info32 : (Tryz.prog.info? 32).map (fun i => (i.zero, i.size)) = some (some (.agg (encY dY).toArray), 24) := by kernel_rfl
theorem Tryz.bytes32 : (Tryz.prog.info? 32).map (fun i => i.bytes) = some 64 := by kernel_rfl
theorem wpListIn_buildSlice {F : Fence} {nF : Nat} {P : Program} {ops : Array Oper} {rest : List Oper} {o : Oper} {a : Act} {w w' : World} {Q : Exit → Act → World → Prop} (hg : o.guard = none) (t len : Nat) (x : Operand) (ho : o.op = .buildSlice t len #[(0, x)]) (u v : Value) (hx : a.eval x = u)
    (hr : (Instr.buildSlice t len #[(0, u)]).run P w = .ok v w')
    (h : wpListIn F nF P ops Q rest (a.put o.dst v) w') : wpListIn F nF P ops Q (o :: rest) a w := by
  refine wpListIn_plain hg fun K hK => ?_
  unfold Oper.wpIn
  refine ⟨by simp [Oper.about, ho], ?_⟩
  rw [Oper.semAt_plain F _ _ (by rw [ho]; intro c hc'; cases hc')]
  unfold execOp
  simp [ho, hx, hr, Result.andThen]
  exact hK _ _ h
theorem news_rowE (w : World) (RF : List Value) (t : TypeId) : ∀ j u, RF[j]? = some u → (w.alloc (.cells RF.toArray t)).cell? ((⟨w.heap.size, 0, none⟩ : Addr).add j) = some u := fun j u hj => by
  have h := range_row (heap_alloc_new w (.cells RF.toArray t)) j u hj
  rw [addr_add]
  exact h
end Go.Proofs.YtcicoeneemnbiaaGreatDoor
namespace Go.Proofs.YtcicoeneemnbiaaGreatDoor
open Go.RowKit Go.Shelf Go.Maps
set_option linter.unusedVariables false
set_option linter.unusedSectionVars false
set_option linter.unusedSimpArgs false
attribute [local go_sem] Oper.semAt_some
theorem range_allA {α : Type} {F : Fence} {n : Nat} {P : Program} {g : Operand} {ps : Array Tmp} {assign body : Code} {Q : Exit → Act → World → Prop} {a : Act} {w : World}
    (hro : F.round = none) (h1 : 1 ≤ n) {gf : Nat} {lb : Array Value} (hg : a.eval g = .func (.func gf) #[] lb) (hFg : F.fn gf) (eg : ∀ args w, (callFunc gf args).run P w = .ok (.enter gf args) w)
    {encs : α → Array Value} {Fx : α → World → Prop} {Kp : Nat → World → World → Prop} {S : List α → Prop} {N : Nat} (hseq : SeqAll F (n - 1) P gf lb encs Fx Kp S N w) (hps : ∀ x, (encs x).size = ps.size)
    (hKt : ∀ {l : Nat} {A B C : World}, Kp l A B → Kp l B C → Kp l A C) (hKl : ∀ (l : Nat) (W : World) (r r' : Loop), w.heap.size ≤ l → W.heap[l]? = some (.loop r) → Kp l W (W.putObj l (.loop r')))
    (hFl : ∀ (l : Nat) (W : World) (r r' : Loop) (x : α), w.heap.size ≤ l → W.heap[l]? = some (.loop r) → Fx x W → Fx x (W.putObj l (.loop r')))
    (I : List α → World → Prop) (hI : ∀ s A B, I s A → A.grownBy B none → I s B) (hIl : ∀ (s : List α) (l : Nat) (W : World) (r r' : Loop), w.heap.size ≤ l → W.heap[l]? = some (.loop r) → I s W → I s (W.putObj l (.loop r')))
    (h0 : I [] w) (ax : α → World → Act) (aw : α → World → World) (hag : ∀ (x : α) (W : World), W.grownBy (aw x W) none) (hKa : ∀ (l : Nat) (x : α) (W : World), w.heap.size ≤ l → l < W.heap.size → Kp l W (aw x W)) (hFa : ∀ (x : α) (W : World), Fx x W → Fx x (aw x W))
    (hassign : ∀ (l : Nat) (x : α) (W : World) (K : Act → World → Prop), Fx x W → K (ax x W) (aw x W) → assign.wpIn (F.inRound l) (n - 1 - 1) P (Exit.then K (fun _ _ _ => False)) { tmps := (ps.zip (encs x)).foldl (fun t (p, v) => t.setIfInBounds p v) a.tmps, defers := [] } W)
    (hbody : ∀ (l : Nat) (pre : List α) (x : α) (W0 W : World), w.heap.size ≤ l → l < W0.heap.size → (∀ k, k ≠ l → W.heap[k]? = (aw x W0).heap[k]?) → I pre W → Fx x W → pre.length < N → l < W.heap.size → W0.heap.size ≤ W.heap.size → body.wpIn (F.inRound l) (n - 1 - 1) P (fun e _ W' => e = .normal ∧ KeepsFrom w.heap.size W W' ∧ Kp l W W' ∧ I (pre ++ [x]) W') (ax x W0) W)
    (hdone : ∀ (D : Nat) (xs : List α) (W : World), w.heap.size ≤ D → S xs → I xs W → W.heap[D]? = some (.deferred (some [])) → Q .normal { a with defers := { target := .collected D, args := #[] } :: a.defers } W) :
    (Code.rangeFunc g ps assign body).wpIn F n P Q a w := by
  refine wpIn_rangeFunc ?_
  intro fn hfn
  rw [hro]
  obtain ⟨rc, hrc⟩ : ∃ rc : LoopState → Loop, rc = fun st => { state := st, pending := none, fn, tmps := a.tmps, params := ps, assign, body, defers := w.heap.size } := ⟨_, rfl⟩
  obtain ⟨W1, hW1⟩ : ∃ W1, (w.alloc (.deferred (some []))).alloc (.loop (rc .ready)) = W1 := ⟨_, rfl⟩
  have hg1 : w.grownBy W1 none := by rw [← hW1]; exact (hg_alloc w _).trans (hg_alloc _ _)
  have hs1 : W1.heap.size = w.heap.size + 2 := by rw [← hW1]; simp
  have hL1 : W1.heap[w.heap.size + 1]? = some (.loop (rc .ready)) := by
    rw [← hW1]; have := World.alloc_heap_new (w.alloc (.deferred (some []))) (.loop (rc .ready)); rwa [World.size_alloc] at this
  have hD1 : W1.heap[w.heap.size]? = some (.deferred (some [])) := by
    rw [← hW1]; exact (Below.heap_alloc _ _ _ (by simp)).trans (World.alloc_heap_new w _)
  have hb1 : Below w.heap.size w W1 := ⟨hg1.os, hg1.tape, hg1.output, hg1.size, fun k hk => hg1.block k hk (by simp)⟩
  refine ⟨w.heap.size + 1, [{ target := .collected w.heap.size, args := #[] }], W1, { target := .fn (.func gf) lb, args := #[.func (.yield (w.heap.size + 1)) #[] #[]] }, W1, gf,
    #[.func (.yield (w.heap.size + 1)) #[] #[]] ++ lb, W1, ?_, ?_, ?_, ?_, fun _ => h1, ?_⟩
  · rw [← hW1, hrc]; exact run_enterLoop_outer _ _ _ _ _
  · simp only [resolve, hg]
    simp [go_sem]
  · intro f' hf'; simp [Target.leads] at hf'; subst hf'; exact hFg
  · simp [invoke, go_sem, eg]
  · have keep : ∀ {A B : World} {k : Nat} {o : Obj}, A.grownBy B none → A.heap[k]? = some o → B.heap[k]? = some o := fun hg' hk => (hg'.block _ (Array.getElem?_eq_some_iff.1 hk).1 (by simp)).trans hk
    refine (hseq (w.heap.size + 1) (fun pre W => I pre W ∧ W.heap[w.heap.size + 1]? = some (.loop (rc .ready)) ∧ W.heap[w.heap.size]? = some (.deferred (some []))) W1 hb1 (by omega) (by omega)
      (fun s A B hs hg' => ⟨hI s A B hs.1 hg', keep hg' hs.2.1, keep hg' hs.2.2⟩) ?_ ⟨hI _ _ _ h0 hg1, hL1, hD1⟩).mono ?_
    · rintro pre x W0 ⟨hi0, hl0, hd0⟩ hfx0 hlen
      have hlt0 : w.heap.size + 1 < W0.heap.size := (Array.getElem?_eq_some_iff.1 hl0).1
      have hy := run_yield (P := P) (args := encs x) hl0 (by rw [hrc]; exact hps x)
      rw [hrc] at hy
      have hle : w.heap.size ≤ w.heap.size + 1 := by omega
      have hga := hag x W0
      have hi := hI _ _ _ hi0 hga
      have hl := keep hga hl0
      have hd := keep hga hd0
      have hfx := hFa x W0 hfx0
      have hKp0 := hKa (w.heap.size + 1) x W0 hle hlt0
      refine ⟨fn, _, assign, body, hy, roundIn_of_wpIn hfn (hassign _ x W0 _ hfx0 ?_)⟩
      have hbody0 := hbody (w.heap.size + 1) pre x W0
      have hsz0 := hga.size
      generalize hWW : aw x W0 = W at hi hl hd hfx hKp0 hbody0 hsz0 ⊢
      have hlt : w.heap.size + 1 < W.heap.size := (Array.getElem?_eq_some_iff.1 hl).1
      refine ⟨_, run_beginRound hl (by rw [hrc]), ?_⟩
      have hl2 : (W.putObj (w.heap.size + 1) (.loop { rc .ready with state := .busy })).heap[w.heap.size + 1]? = some (.loop { rc .ready with state := .busy }) := World.putObj_heap_same hlt
      have hd2 : (W.putObj (w.heap.size + 1) (.loop { rc .ready with state := .busy })).heap[w.heap.size]? = some (.deferred (some [])) := (World.putObj_heap_other (by omega)).trans hd
      refine wpIn_mono (hbody0 _ hle hlt0 (fun k hk => World.putObj_heap_other hk) (hIl _ _ _ _ _ hle hl hi) (hFl _ _ _ _ _ hle hl hfx) hlen (by rw [World.putObj_size]; exact hlt) (by rw [World.putObj_size]; exact hsz0)) ?_
      rintro e a3 W3 ⟨rfl, hk3, hkp3, hi3⟩
      have hl3 := hk3.same _ _ hle hl2 rfl
      have hd3 := hk3.same _ _ (Nat.le_refl _) hd2 rfl
      have hr := run_endRound (P := P) none hl3
      refine ⟨_, _, hr, rfl, ⟨hIl _ _ _ _ _ hle hl3 hi3, ?_, (World.putObj_heap_other (by omega)).trans hd3⟩, hKt hKp0 (hKt (hKt (hKl _ _ _ _ hle hl) hkp3) (hKl _ _ _ _ hle hl3))⟩
      rw [World.putObj_heap_same (Array.getElem?_eq_some_iff.1 hl3).1, hrc]
      rfl
    · rintro e W2 ⟨⟨v, rfl⟩, xs, hS, hi, hl, hd⟩
      refine ⟨none, _, by have := run_endLoop (P := P) hl (by rw [hrc]; simp); rw [hrc] at this; exact this, ?_⟩
      exact hdone _ xs _ (Nat.le_refl _) hS (hIl _ _ _ _ _ (by omega) hl hi) ((World.putObj_heap_other (by omega)).trans hd)
def fE (es : List Ey) : List Value := es.flatMap encY
theorem fE_snoc (es : List Ey) (x : Ey) : fE (es ++ [x]) = fE es ++ encY x := by simp [fE]
def CoI (w : World) (X B : Nat) (v : Value) (pre : List Ey) (W : World) : Prop :=
  ∃ u, Boxed W X 22 u ∧ W.ownsRow B 32 24 u pre.length (fE pre) ∧ Mv w W v u
theorem CoI.grow {w : World} {X B : Nat} {v : Value} (s : List Ey) (A C : World) (h : CoI w X B v s A) (hg : A.grownBy C none) : CoI w X B v s C := by
  obtain ⟨u, h1, h2, h3⟩ := h
  exact ⟨u, h1.kept hg (by simp), h2.kept hg (by cases e : u.ownBlock <;> simp), h3.trans (Mv.grow u hg)⟩
theorem CoI.put {w : World} {X B : Nat} {v : Value} {n : Nat} (hX : X < n) (hw : w.heap.size ≤ n) (s : List Ey) (l : Nat) (W : World) (r r' : Loop) (hl : n ≤ l) (hr : W.heap[l]? = some (.loop r)) (h : CoI w X B v s W) : CoI w X B v s (W.putObj l (.loop r')) := by
  obtain ⟨u, h1, h2, h3⟩ := h
  exact ⟨u, (World.putObj_heap_other (by omega)).trans h1, ownsRow_putObj h2 _ hr rfl, h3.put _ (by omega)⟩
theorem Tryz.results64 : Tryz.f64.results = #[.tmp 4] := by kernel_rfl
def PostK (w : World) (es : List Ey) (e : Ending) (w' : World) : Prop := ∃ v', e = .returned v' ∧ w'.ownsRow w.heap.size 32 24 v' es.length (fE es) ∧ Below w.heap.size w w'
set_option maxRecDepth 100000 in
set_option maxHeartbeats 4000000 in
theorem appendSeq_any (Bs : Nat) (a : Option Addr) (cap : Nat) (es : List Ey) (w : World) (hwf : WY es) (hP : PY w a cap es) (hl : es.length ≤ 1000) (hbs : Boxed w Bs 22 (.slice a es.length cap)) :
    Calls Tryz.prog 64 #[.slice none 0 0, .func (.func 48) #[] #[.pointer (some ⟨Bs, 0, none⟩)]] w (PostK w es) := by
  have hi0 := Tryz.info32
  have hb0 := Tryz.bytes32
  cases hq : Tryz.prog.info? 32 with
  | none => rw [hq] at hi0; cases hi0
  | some i51 =>
  rw [hq] at hi0 hb0
  simp only [Option.map_some, Option.some.injEq, Prod.mk.injEq] at hi0 hb0
  obtain ⟨hz0, hz1⟩ := hi0
  have HI : Hid (Tryz.prog.info? 32 = some i51) := hq
  have HZ0 : Hid (i51.zero = some (.agg (encY dY).toArray)) := hz0
  have HZ1 : Hid (i51.size = 24) := hz1
  have HZ2 : Hid (i51.bytes = 64) := hb0
  have HS51 : Hid ((Tryz.prog.info? 32).map (·.size) = some 24) := info32
  clear hq hz0 hz1 hb0
  have HPE : Hid (PY w a cap es) := hP
  have HWF : Hid (WY es) := hwf
  have HBS : Hid (Boxed w Bs 22 (.slice a es.length cap)) := hbs
  clear hP hwf hbs
  obtain ⟨zr, HZ⟩ : ∃ zr : Array Value, Hid (zr = (encY dY).toArray) := ⟨_, rfl⟩
  have hz51 : ∀ w : World, (zeroValue 32).run Tryz.prog w = .ok (.agg zr) w := fun w => by rw [HZ.out]; exact zero32 w
  refine (callsIn_wide (n := 3)).1 ?_
  refine callsIn_of_wp_marks Tryz.func64 rfl trivial ?_ rfl
  simp only [Tryz.ntmps64, List.size_toArray, List.length_cons, List.length_nil, Nat.reduceAdd, Nat.reduceSub, Array.replicate_succ, Array.replicate_zero, List.push_toArray, List.append_toArray, List.nil_append, List.cons_append]
  gi_wp2
  obtain ⟨X, HX⟩ : ∃ X, Hid (X = w.heap.size) := ⟨_, rfl⟩
  obtain ⟨WL, HWL⟩ : ∃ WL, Hid (w.alloc (.cells #[.slice none 0 0] 22) = WL) := ⟨_, rfl⟩
  have hgw : w.grownBy WL none := by rw [← HWL.out]; exact hg_alloc w _
  have hsz : WL.heap.size = X + 1 := by rw [← HWL.out, HX.out]; simp
  have bX : Boxed WL X 22 (.slice none 0 0) := by rw [← HWL.out, HX.out]; exact Boxed.new w 22 _
  have hno : ∀ k, ¬ Ob X WL k := fun k ⟨u, h1, h2⟩ => by rw [bX.cell] at h1; cases h1; cases h2
  have hbw : Below w.heap.size w WL := ⟨hgw.os, hgw.tape, hgw.output, hgw.size, fun k hk => hgw.block k hk (by simp)⟩
  have hI0 : CoI w X X (.slice none 0 0) [] WL := ⟨_, bX, World.ownsRow_nil _ _ _ _, Mv.grow _ hgw⟩
  have hSL : PY WL a cap es := HPE.out.below hbw
  have bS : Boxed WL Bs 22 (.slice a es.length cap) := HBS.out.kept hgw (by simp)
  have hBsX : Bs < X := by rw [HX.out]; exact HBS.out.lt
  have hfa : 0 < es.length → ∀ p : Addr, a = some p → Fre X WL p.block := fun h0 p hp => by
    obtain ⟨b, off, e1, e2, _⟩ := HPE.out.at_ h0
    rw [hp] at e1; cases e1
    rw [← HX.out] at e2
    exact ⟨by rw [hsz]; exact Nat.lt_succ_of_lt e2, Nat.ne_of_lt e2, hno _⟩
  rw [HWL.out]
  rw [← HX.out]
  have hXw : w.heap.size ≤ X := by rw [HX.out]; exact Nat.le_refl _
  refine range_allA (F := Fence.wide) (n := 3) rfl (by omega) (gf := 48) (lb := #[.pointer (some ⟨Bs, 0, none⟩)]) rfl trivial (enters_of Tryz.func48 (by kernel_rfl) rfl)
    (values_all 2 (by omega) WL X Bs a cap es HWF.out hSL hl bS (by omega) ⟨by omega, by omega, hno _⟩ hfa)
    (fun _ => rfl) Kx.trans (fun l W r r' hl _ => Kx.loop (r := r) (by omega)) (fun l W r r' x hl hr hf => hf)
    (CoI w X X (.slice none 0 0)) (fun s A C h hg => CoI.grow s A C h hg) (fun s l W r r' hl hr h => CoI.put (n := WL.heap.size) (by omega) (by omega) s l W r r' hl hr h) hI0
    (fun x W => { tmps := #[.slice none 0 0, .func (.func 48) #[] #[.pointer (some ⟨Bs, 0, none⟩)], .pointer (some ⟨X, 0, none⟩), undef, .slice none 0 0, .pointer (some ⟨W.heap.size, 0, none⟩), .func (.func 48) #[] #[.pointer (some ⟨Bs, 0, none⟩)], .agg (encY x).toArray, undef, undef, undef, undef, undef], defers := [] }) (fun x W => (W.alloc (.cells zr 32)).setRow W.heap.size (encY x).toArray) ?_ ?_ (fun x W h => h) ?assign ?body ?done
  · intro x W; exact grown_of_below (below_setRow ((Below.refl _ W).alloc (Nat.le_refl _) _) (Nat.le_refl _) _) _
  · intro l x W h1 h2; exact Kx.grow (by omega) (grown_of_below (below_setRow ((Below.refl _ W).alloc (Nat.le_refl _) _) (Nat.le_refl _) _) _)
  case assign =>
    intro l x W K hx20 hK
    obtain ⟨R, HR⟩ : ∃ R : List Value, Hid (encY x = R) := ⟨_, rfl⟩
    have HFN : Hid (R.length = 24) := hid (by rw [← HR.out]; exact encY_len x hx20)
    have I51 : Hid ((Tryz.prog.info? 32).map (·.size) = some R.toArray.size) := hid (by rw [List.size_toArray, HFN.out]; exact HS51.out)
    have E51 : Hid (zr.size = R.toArray.size) := hid (by rw [HZ.out, List.size_toArray, List.size_toArray, HFN.out]; rfl)
    have O51 : Hid (R.toArray.all (·.oneCell') = true) := hid (by rw [← HR.out]; exact all_oneCell_toArray (encY_one _))
    have D0 : Hid ((W.alloc (.cells zr 32)).heap[W.heap.size]? = some (.cells zr 32 (0, 0))) := heap_alloc_new W _
    rw [HR.out] at hK
    dsimp only [encE]
    rw [HR.out]
    gi_wp2_with (refine wpListIn_store_row rfl 32 _ _ rfl W.heap.size R.toArray rfl rfl 32 zr D0.out I51.out E51.out O51.out ?_)
    exact hK
  case body =>
    rintro l pre x W0 W hlX hlW0 hoth ⟨u, b1, o1, m1⟩ hx20 hlen hlW hsW
    have hlX' : X + 1 ≤ l := by omega
    clear hsz
    obtain ⟨N, HN⟩ : ∃ N, Hid (N = pre.length) := ⟨_, rfl⟩
    obtain ⟨L, HL⟩ : ∃ L, Hid (L = fE pre) := ⟨_, rfl⟩
    have hN : N ≤ 1000 := by rw [HN.out]; omega
    rw [← HN.out, ← HL.out] at o1
    obtain ⟨ua, uc, rfl⟩ := owns_shape o1
    obtain ⟨V, HV⟩ : ∃ V, Hid (W0.heap.size = V) := ⟨_, rfl⟩
    obtain ⟨R, HR⟩ : ∃ R : List Value, Hid (encY x = R) := ⟨_, rfl⟩
    have HFN : Hid (R.length = 24) := hid (by rw [← HR.out]; exact encY_len x hx20)
    have hi51 : (Tryz.prog.info? 32).map (·.size) = some R.length := by rw [HFN.out]; exact HS51.out
    have R2 : Hid (W.rangeAt V 0 R) := hid (by
      rw [← HV.out, ← HR.out]
      refine range_row (t := 32) (fr := (0, 0)) ?_
      rw [hoth _ (by omega)]
      exact setRow_heap _ _ _ (encY x).toArray _ _ (heap_alloc_new W0 _))
    have HRB : Hid (∀ W, (Instr.buildSlice 22 1 #[(0, .agg R.toArray)]).run Tryz.prog W = .ok (.slice (some ⟨W.heap.size, 0, none⟩) 1 1) (W.alloc (.cells R.toArray 32))) := fun W => by rw [← HR.out]; exact run_buildY x hx20 W
    have HR1 : Hid (∀ v ∈ R, v.oneCell' = true) := hid (by rw [← HR.out]; exact encY_one x)
    have hXne : some X ≠ (Value.slice ua N uc).ownBlock := b1.not_row (by decide) o1
    have k0 := b1.cell
    have f0 := b1.frozen
    have hBW : X ≤ W.heap.size := by have := m1.size; omega
    have HO1 : Hid (W.ownsRow X 32 24 (.slice ua N uc) N L) := o1
    have HB1 : Hid (Boxed W X 22 (.slice ua N uc)) := b1
    have HM1 : Hid (Mv w W (.slice none 0 0) (.slice ua N uc)) := m1
    have HNR : Hid (∀ j z, R[j]? = some z → (W.alloc (.cells R.toArray 32)).cell? ((⟨W.heap.size, 0, none⟩ : Addr).add j) = some z) := news_rowE _ _ _
    clear o1 b1 m1 hoth
    rw [HV.out]
    gi_wp2_with (first
      | refine wpListIn_load_mid rfl 32 _ rfl V 0 rfl R _ R2.out Tryz.underlying32 rfl hi51 ?_
      | refine wpListIn_buildSlice rfl 22 1 _ rfl (.agg R.toArray) _ rfl (HRB.out _) ?_
      | (gi_at_builtin; refine wpListIn_append_own_at _ rfl _ _ 22 rfl X 32 i51 (.agg (encY dY).toArray) 24 64 Tryz.underlying22 HI.out HZ0.out HZ1.out HZ2.out rfl (by decide) _ N L rfl (HO1.out.alloc _) ⟨W.heap.size, 0, none⟩ 1 1 R rfl (by rw [HFN.out]) HNR.out HR1.out (by unfold maxLen; omega) (by omega) (by simp; omega) ?_; intro v1 w1 ho1 hg1 hn1 hl1; obtain ⟨a1, c1, rfl⟩ := owns_shape ho1; have HV1 : Hid (Mv W w1 (.slice ua N uc) (.slice a1 (N + 1 : Nat) c1)) := Mv.app (hg_alloc W _) hg1 hl1; have HW1 : Hid (w1.ownsRow X 32 24 (.slice a1 (N + 1 : Nat) c1) (N + 1) (L ++ R)) := ho1; clear ho1 hg1 hn1 hl1; have HB2 : Hid (Boxed w1 X 22 (.slice ua N uc)) := (HV1.out.blk X HB1.out.lt hXne).trans HB1.out; have kx1 := HB2.out.cell; have fx1 := HB2.out.frozen))
    have K1 := keeps_mv HB1.out HO1.out HV1.out WL.heap.size
    have X1 : Kx X l W (w1.setCell ⟨X, 0, none⟩ (.slice a1 (N + 1 : Nat) c1)) := Kx.mv HB1.out HV1.out hXne (fun k hk => (HW1.out.lt k hk).2)
    have hS3 : some X ≠ (Value.slice a1 (N + 1 : Nat) c1).ownBlock := Boxed.not_row HB2.out (by decide) HW1.out
    refine ⟨K1, X1, _, Boxed.set _ HB2.out, ?_, (HM1.out.trans HV1.out).store hXw _⟩
    rw [List.length_append, fE_snoc, ← HN.out, ← HL.out, HR.out]
    exact HW1.out.kept (grownBy_setCell' w1 X (.slice a1 (N + 1 : Nat) c1)) (.inr (Ne.symm hS3))
  case done =>
    rintro D xs W hD hS ⟨u, b1, o1, m1⟩ hK
    subst hS
    obtain ⟨ua, uc, rfl⟩ := owns_shape o1
    have k0 := b1.cell
    have HK : Hid (W.heap[D]? = some (.deferred (some []))) := hK
    have hwD : w.heap.size ≤ D := by omega
    gi_wp2
    refine ret_1 Tryz.results64 _ _ D (.slice ua xs.length uc) rfl HK.out _ ⟨_, rfl, ?_, (m1.put _ hwD).below (fun k hk => by cases hk) (Nat.le_refl _)⟩
    rw [← HX.out]
    exact ownsRow_putObj o1 _ HK.out rfl
end Go.Proofs.YtcicoeneemnbiaaGreatDoor
namespace Go.Proofs.YtcicoeneemnbiaaGreatDoor
open Go.RowKit Go.Shelf
set_option linter.unusedVariables false
set_option linter.unusedSectionVars false
set_option linter.unusedSimpArgs false
abbrev En := { e : Ey // e.id.length = 20 }
variable [Inhabited En]
def encN (x : En) : List Value := encY x.1
def cfN (x y : En) : Int := cmpY x.1 y.1
theorem cbS : ∀ a b : List UInt8, (Lib.compareBytes a b < 0 ↔ ltS a b = true) ∧ (Lib.compareBytes a b = 0 ↔ a = b)
  | [], [] => by simp [Lib.compareBytes, ltS]
  | [], b :: bs => by simp [Lib.compareBytes, ltS]
  | a :: xs, [] => by simp [Lib.compareBytes, ltS]
  | a :: xs, b :: bs => by
    rw [Lib.compareBytes, ltS]
    by_cases h1 : a < b
    · rw [if_pos h1, if_pos h1]
      have hne : a ≠ b := fun e => by rw [e] at h1; exact absurd h1 (by rw [UInt8.lt_iff_toNat_lt]; omega)
      simp [hne]
    · rw [if_neg h1, if_neg h1]
      by_cases h2 : b < a
      · have hne : a ≠ b := fun e => by rw [e] at h2; exact absurd h2 (by rw [UInt8.lt_iff_toNat_lt]; omega)
        rw [if_pos h2, if_neg hne]
        simp [hne]
      · have he : a = b := by
          rw [UInt8.lt_iff_toNat_lt] at h1 h2
          exact UInt8.toNat_inj.1 (by omega)
        rw [if_neg h2, if_pos he, (cbS xs bs).1, (cbS xs bs).2]
        simp [he]
def ltK (x y : Ey) : Prop := ltS x.path y.path = true ∨ (x.path = y.path ∧ x.stage < y.stage)
theorem cmpI_lt (x y : Int) : cmpI x y < 0 ↔ x < y := by
  unfold cmpI
  by_cases h1 : x < y
  · rw [if_pos h1]; simp [h1]
  · rw [if_neg h1]
    by_cases h2 : y < x
    · rw [if_pos h2]; simp [h1]
    · rw [if_neg h2]; simp [h1]
theorem cmpY_iff (x y : Ey) : cmpY x y < 0 ↔ ltK x y := by
  have h := cbS x.path y.path
  unfold cmpY orI ltK
  by_cases h0 : Lib.compareBytes x.path y.path = 0
  · rw [if_neg (by simpa using h0), cmpI_lt]
    have he := h.2.1 h0
    rw [he, ltS_irr]
    simp
  · rw [if_pos h0, h.1]
    have hne : x.path ≠ y.path := fun e => h0 (h.2.2 e)
    simp [hne]
theorem not_ltK (x y : Ey) : ¬ ltK x y ↔ leK y x := by
  unfold ltK leK
  constructor
  · intro h
    rcases ltS_tri x.path y.path with k | k | k
    · exact absurd (.inl k) h
    · refine .inr ⟨k.symm, ?_⟩
      have : ¬ x.stage < y.stage := fun e => h (.inr ⟨k, e⟩)
      omega
    · exact .inl k
  · intro h k
    rcases h with h | ⟨h, h'⟩
    · rcases k with k | ⟨k, _⟩
      · rw [ltS_asym h] at k; cases k
      · rw [k, ltS_irr] at h; cases h
    · rcases k with k | ⟨k, k'⟩
      · rw [h, ltS_irr] at k; cases k
      · omega
theorem ltN (x y : En) : ltOf cfN x y = true ↔ ltK x.1 y.1 := by
  unfold ltOf cfN
  rw [decide_eq_true_iff]
  exact cmpY_iff _ _
theorem ltN_f (x y : En) : ltOf cfN x y = false ↔ leK y.1 x.1 := by
  rw [← not_ltK, ← ltN]
  simp
theorem swoN : Sort.SWO (ltOf cfN) where
  irrefl x := (ltN_f x x).2 (.inr ⟨rfl, Int.le_refl _⟩)
  trans x y z h1 h2 := by
    rw [ltN] at *
    rcases h1 with h | ⟨h, h'⟩
    · rcases h2 with k | ⟨k, _⟩
      · exact .inl (ltS_trans h k)
      · left; rw [← k]; exact h
    · rcases h2 with k | ⟨k, k'⟩
      · left; rw [h]; exact k
      · exact .inr ⟨h.trans k, Int.lt_trans h' k'⟩
  ntrans x y z h1 h2 := by
    rw [ltN_f] at *
    exact leK_trans h2 h1
theorem cmpLays45 (blk off size : Nat) (w : World) : CmpLays Tryz.prog 27 #[] encN 24 cfN blk off size w := fun m os dk _ x y => by
  have := byOrder_any x.1 y.1 x.2 y.2 (sortWorldK encN 24 w blk off m dk os)
  exact this
theorem enters45 : ∀ args w, (callFunc 27 args).run Tryz.prog w = .ok (.enter 27 args) w := enters_of Tryz.func27 (by kernel_rfl) rfl
theorem sort_any (blk off cap : Nat) (d : Array En) (w : World) (hH : Sort.HoldsK encN 24 w blk off d) (hblk : blk < w.heap.size) (hsz : d.size ≤ 1000) :
    Calls Tryz.prog 47 #[.slice (some ⟨blk, off, none⟩) d.size cap, .func (.func 27) #[] #[]] w fun e w' => e = .returned (.tuple #[]) ∧ ∃ d' n os, Sort.PermIn 0 d.size d d' ∧ Sort.SortedIn (ltOf cfN) 0 d.size d' ∧ w' = sortWorldK encN 24 w blk off n d' os :=
  AnyQ.slices_SortFunc Tryz.sortE 24 Tryz.isAgg32 Tryz.sizeOf32 encN (fun x => encY_len x.1 x.2) (fun x => encY_one x.1) cfN swoN 27 #[] blk off cap d w enters45 (cmpLays45 blk off d.size w) hH hblk (by omega)
theorem sort_none (p : Option Addr) (cap : Nat) (fv : Value) (w : World) : Calls Tryz.prog 47 #[.slice p 0 cap, fv] w fun e w' => e = .returned (.tuple #[]) ∧ w' = w :=
  AnyF.slices_SortFunc_none Tryz.sortE p cap fv w
theorem fE_at : ∀ (es : List Ey) (h : ∀ x ∈ es, x.id.length = 20) (i j : Nat), i < es.length → j < 24 → (fE es)[i * 24 + j]? = (encY (es.getD i dY))[j]?
  | [], _, i, j, h, _ => by simp at h
  | x :: es, h, 0, j, _, hj => by
    have hl : (encY x).length = 24 := encY_len x (h x (by simp))
    show (encY x ++ fE es)[0 * 24 + j]? = _
    rw [List.getElem?_append_left (by omega)]
    simp
  | x :: es, h, i + 1, j, hi, hj => by
    have hl : (encY x).length = 24 := encY_len x (h x (by simp))
    show (encY x ++ fE es)[(i + 1) * 24 + j]? = _
    rw [List.getElem?_append_right (by omega), hl, show (i + 1) * 24 + j - 24 = i * 24 + j by omega, fE_at es (fun y hy => h y (by simp [hy])) i j (by simpa using hi) hj]
    simp
end Go.Proofs.YtcicoeneemnbiaaGreatDoor
