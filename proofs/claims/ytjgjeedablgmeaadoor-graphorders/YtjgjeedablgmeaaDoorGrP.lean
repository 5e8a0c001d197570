/- A queue in memory: 'Push', 'Pop' of its own; how its methods are found. -/
import Derived.Test.YtjgjeedablgmeaaDoorGrO
namespace Go.Proofs.YtjgjeedablgmeaaDoor
open Go.RowKit
set_option linter.unusedVariables false
set_option linter.unusedSimpArgs false
theorem method_at (p : Addr) (w : World) : (Go.method 294 99 (.pointer (some p)) "Less").run Tryd.prog w = (loadVar 100 p >>= fun v => pure (109, v)).run Tryd.prog w := by kernel_rfl
theorem method_at2 (p : Addr) (w : World) : (Go.method 294 99 (.pointer (some p)) "Swap").run Tryd.prog w = (loadVar 100 p >>= fun v => pure (112, v)).run Tryd.prog w := by kernel_rfl
theorem method_at3 (p : Addr) (w : World) : (Go.method 294 99 (.pointer (some p)) "Len").run Tryd.prog w = (loadVar 100 p >>= fun v => pure (48, v)).run Tryd.prog w := by kernel_rfl
theorem method_push (p : Addr) (w : World) : (Go.method 294 99 (.pointer (some p)) "Push").run Tryd.prog w = .ok (111, .pointer (some p)) w := by kernel_rfl
theorem method_pop (p : Addr) (w : World) : (Go.method 294 99 (.pointer (some p)) "Pop").run Tryd.prog w = .ok (110, .pointer (some p)) w := by kernel_rfl
theorem load100 {w : World} {p : Addr} {v : Value} (h : w.cell? p = some v) : (loadVar 100 p).run Tryd.prog w = .ok v w := by
  simp [loadVar, isAgg, underlying, Tryd.underlying100, h, Result.andThen]
theorem method_less {w : World} {p : Addr} {v : Value} (h : w.cell? p = some v) : (Go.method 294 99 (.pointer (some p)) "Less").run Tryd.prog w = .ok (109, v) w := by
  rw [method_at, Sem.run_bind, load100 h]; rfl
theorem method_swap {w : World} {p : Addr} {v : Value} (h : w.cell? p = some v) : (Go.method 294 99 (.pointer (some p)) "Swap").run Tryd.prog w = .ok (112, v) w := by
  rw [method_at2, Sem.run_bind, load100 h]; rfl
theorem method_len {w : World} {p : Addr} {v : Value} (h : w.cell? p = some v) : (Go.method 294 99 (.pointer (some p)) "Len").run Tryd.prog w = .ok (48, v) w := by
  rw [method_at3, Sem.run_bind, load100 h]; rfl
/-- What a queue's methods may change. -/
structure Fr2 (Qb : Nat) (r : Option Nat) (w w' : World) : Prop where
  os : w'.os = w.os
  tape : w'.tape = w.tape
  output : w'.output = w.output
  size : w.heap.size ≤ w'.heap.size
  block : ∀ k, k < w.heap.size → k ≠ Qb → some k ≠ r → w'.heap[k]? = w.heap[k]?
theorem Fr2.refl (Qb : Nat) (r : Option Nat) (w : World) : Fr2 Qb r w w := ⟨rfl, rfl, rfl, Nat.le_refl _, fun _ _ _ _ => rfl⟩
theorem Fr2.trans {Qb : Nat} {r r1 : Option Nat} {w w1 w2 : World} (h : Fr2 Qb r w w1) (h1 : Fr2 Qb r1 w1 w2) (hr : ∀ k, r1 = some k → r = some k ∨ w.heap.size ≤ k) : Fr2 Qb r w w2 :=
  ⟨h1.os.trans h.os, h1.tape.trans h.tape, h1.output.trans h.output, Nat.le_trans h.size h1.size, fun k hk hq hkr => (h1.block k (Nat.lt_of_lt_of_le hk h.size) hq (fun e => by
    rcases hr k e.symm with e2 | e2
    · exact hkr e2.symm
    · omega)).trans (h.block k hk hq hkr)⟩
theorem Fr2.of_grown {Qb : Nat} {r : Option Nat} {w w' : World} (h : w.grownBy w' r) : Fr2 Qb r w w' := ⟨h.os, h.tape, h.output, h.size, fun k hk _ hr => h.block k hk hr⟩
theorem Fr2.of_box {Qb : Nat} {r : Option Nat} {w w' : World} (h : w.grownBy w' (some Qb)) : Fr2 Qb r w w' := ⟨h.os, h.tape, h.output, h.size, fun k hk hq _ => h.block k hk (fun e => hq (by cases e; rfl))⟩
theorem Fr2.of_below {Qb : Nat} {r : Option Nat} {w w' : World} (h : Below w.heap.size w w') : Fr2 Qb r w w' := ⟨h.os, h.tape, h.output, h.size, fun k hk _ _ => h.block k hk⟩
/-- A queue: its box, its row. -/
structure Qu (w : World) (Qb B : Nat) (v : Value) (l : List Nd) : Prop where
  box : w.heap[Qb]? = some (.cells #[v] 100 (0, 0))
  own : Bx ndV 22 53 w w B v l
  ne : v.ownBlock ≠ some Qb
  wf : ∀ x ∈ l, x.id.length = 20
theorem Qu.cell {w : World} {Qb B : Nat} {v : Value} {l : List Nd} (h : Qu w Qb B v l) : w.cell? ⟨Qb, 0, none⟩ = some v := (cell_of_row w Qb 0 _ _ _ h.box).trans rfl
theorem Qu.frozen {w : World} {Qb B : Nat} {v : Value} {l : List Nd} (h : Qu w Qb B v l) : w.frozen? ⟨Qb, 0, none⟩ = false := frozen_of_row w Qb 0 _ _ h.box
theorem Qu.below {w w' : World} {Qb B : Nat} {v : Value} {l : List Nd} (h : Qu w Qb B v l) (hb : Below w.heap.size w w') : Qu w' Qb B v l := ⟨(hb.block _ (lt_of_some h.box)).trans h.box, h.own.moveB hb, h.ne, h.wf⟩
/-- The row has changed. -/
theorem Qu.row {w w' : World} {Qb B : Nat} {v : Value} {l l' : List Nd} (h : Qu w Qb B v l) (ho : Bx ndV 22 53 w w' B v l') (hg : w.grownBy w' v.ownBlock) (hw : ∀ x ∈ l', x.id.length = 20) : Qu w' Qb B v l' := ⟨(hg.block _ (lt_of_some h.box) (fun e => h.ne e.symm)).trans h.box, ho.re, h.ne, hw⟩
/-- The box has changed. -/
theorem Qu.put {w : World} {Qb B : Nat} {v v' : Value} {l l' : List Nd} (h : Qu w Qb B v l) (ho : Bx ndV 22 53 w w B v' l') (hw : ∀ x ∈ l', x.id.length = 20) (hne : v'.ownBlock ≠ some Qb) : Qu (w.setCell ⟨Qb, 0, none⟩ v') Qb B v' l' ∧ w.grownBy (w.setCell ⟨Qb, 0, none⟩ v') (some Qb) := by
  have hg : w.grownBy (w.setCell ⟨Qb, 0, none⟩ v') (some Qb) := ⟨rfl, rfl, rfl, by simp, fun k _ hk => heap_setCell_other w ⟨Qb, 0, none⟩ k v' (fun e => hk (by simp [e]))⟩
  exact ⟨⟨by rw [heap_setCell_same w Qb 0 _ 100 v' h.box]; rfl, ho.move hg (.inr hne), hne, hw⟩, hg⟩
theorem run_build100 (x : Nd) (h : x.id.length = 20) (w : World) : (Instr.buildSlice 100 1 #[(0, .agg (ndV x).toArray)]).run Tryd.prog w = .ok (.slice (some ⟨w.heap.size, 0, none⟩) 1 1) (w.alloc (.cells (ndV x).toArray 53)) := by
  obtain ⟨i, hq, hz, hs, _⟩ := info_parts Tryd.info53
  refine run_buildSlice w 100 53 1 _ (ndV x).toArray i _ Tryd.underlying100 hq hz (by rw [hs]; decide) (by rw [hs]; decide) ?_
  rw [hs]
  obtain ⟨id, ps, pa, pc, tm⟩ := x
  obtain ⟨a0, a1, a2, a3, a4, a5, a6, a7, a8, a9, a10, a11, a12, a13, a14, a15, a16, a17, a18, a19, rfl⟩ := list20 id h
  unfold ndV
  simp only
  generalize ps.length = k
  kernel_rfl
theorem Bx.app1 {w0 w : World} {B : Nat} {v : Value} {l : List Nd} (h : Bx ndV 22 53 w0 w B v l) (b : Nat) (y : Nd) (hb : w.rangeAt b 0 (ndV y)) (hy : y.id.length = 20) (hl : l.length ≤ 3000) (t : TypeId) (hu : Tryd.prog.underlying t = some (.slice 53)) (ty : TypeId) :
    ∃ v' w', (Builtin.append_ #[t, t] ty #[v, .slice (some ⟨b, 0, none⟩) 1 1]).run Tryd.prog w = .ok v' w' ∧ Bx ndV 22 53 w0 w' B v' (l ++ [y]) ∧ w.grownBy w' v.ownBlock ∧ (v'.ownBlock = v.ownBlock ∨ v'.ownBlock = some w.heap.size) := by
  obtain ⟨i, hi, hz0, hz1, hz2⟩ := info_parts Tryd.info53
  obtain ⟨v', w', hr, h1, h2, _, h4⟩ := run_append_own_at (P := Tryd.prog) w B t ty 53 i (.agg (ndV nd0).toArray) 22 56 hu hi hz0 hz1 hz2 rfl (by decide) v _ _ h.own ⟨b, 0, none⟩ 1 1 (ndV y) (by rw [ndV_len y hy]) (fun j u hj => by rw [addr_add]; exact hb j u hj) (ndV_one y) (by unfold maxLen; omega) (by omega) h.le
  refine ⟨v', w', hr, ⟨h.below.grown h2 h.le (fun k hk => (own_lt h.own k hk).1), ?_, Nat.le_trans h.le h2.size⟩, h2, h4⟩
  rw [List.length_append, List.flatMap_append]
  simpa using h1
theorem exec_store1 {o : Oper} {a : Act} {w : World} (x y : Operand) (ho : o.op = .store 100 x y) (p : Addr) (v old : Value) (hx : a.eval x = .pointer (some p)) (hy : a.eval y = v) (hv : v.oneCell' = true) (hc : v.cells = #[v]) (ht : w.cell? p = some old) (hf : w.frozen? p = false) :
    (execOp a.eval o).run Tryd.prog w = .ok .skip (w.setCell p v) := by
  have hs : (sizeOf 100).run Tryd.prog w = .ok 1 w := by kernel_rfl
  unfold execOp
  simp [ho, hx, hy, Instr.storeAt, Instr.sureAddr, storeVar, hs, hc, storeCells, Addr.add, Result.andThen]
  rw [run_store Tryd.prog w p _ _ hv]
  simp [ht, hf]
structure QB (Qb : Nat) (v : Value) (W : World) : Prop where
  c0 : W.cell? ⟨Qb, 0, none⟩ = some v
theorem exec_call {P : Program} {o : Oper} {a : Act} {w w' : World} {v1 v2 v : Value} (s x : Operand) (t : TypeId) (ho : o.op = .call { callee := .builtin .append, args := #[s, x], argTypes := #[t, t] }) (hs : a.eval s = v1) (hx : a.eval x = v2) (hr : (Builtin.append_ #[t, t] o.type #[v1, v2]).run P w = .ok v w') : (execOp a.eval o).run P w = .ok (.value v) w' := by
  unfold execOp
  simp only [ho, resolve, invoke, builtin, Sem.run_bind, Sem.run_pure, Result.andThen_ok, List.map_toArray, List.map_cons, List.map_nil, hs, hx, hr]
set_option maxRecDepth 20000 in
set_option maxHeartbeats 2000000 in
theorem push_any {w : World} {Qb B : Nat} {v : Value} {l : List Nd} (h : Qu w Qb B v l) (hl : l.length ≤ 2000) (x : Nd) (hx : x.id.length = 20) :
    Calls Tryd.prog 111 #[.pointer (some ⟨Qb, 0, none⟩), .iface 53 (.agg (ndV x).toArray)] w fun e w' => e = .returned (.tuple #[]) ∧ ∃ v', Qu w' Qb B v' (l ++ [x]) ∧ Fr2 Qb v.ownBlock w w' ∧ (v'.ownBlock = v.ownBlock ∨ ∃ k, v'.ownBlock = some k ∧ w.heap.size ≤ k) := by
  obtain ⟨R, HR⟩ : ∃ R : List Value, Hid (ndV x = R) := ⟨_, rfl⟩
  obtain ⟨u0, HU0⟩ : ∃ u, Hid (w.drew = u) := ⟨_, rfl⟩
  have hbd : Below w.heap.size w u0 := by rw [← HU0.out]; exact below_drewH (Below.refl _ _) 1
  have hq0 := h.below hbd
  obtain ⟨u1, HU1⟩ : ∃ u, Hid (u0.alloc (.cells R.toArray 53) = u) := ⟨_, rfl⟩
  have hb1 : Below u0.heap.size u0 u1 := by rw [← HU1.out]; exact (Below.refl _ u0).alloc (Nat.le_refl _) _
  have hq1 := hq0.below hb1
  obtain ⟨K, HK⟩ : ∃ K, Hid (u0.heap.size = K) := ⟨_, rfl⟩
  have hr1 : u1.rangeAt K 0 (ndV x) := by rw [HR.out, ← HU1.out, ← HK.out]; exact range_row (heap_alloc_new u0 _)
  obtain ⟨v', u2, hap, hbx, hg2, hvb⟩ := hq1.own.app1 K x hr1 hx (by omega) 100 Tryd.underlying100 100
  have hwl : ∀ y ∈ l ++ [x], y.id.length = 20 := fun y hy => by
    rcases List.mem_append.1 hy with h1 | h1
    · exact h.wf y h1
    · have : y = x := by simpa using h1
      rw [this]; exact hx
  have hbox2 : u2.heap[Qb]? = some (.cells #[v] 100 (0, 0)) := (hg2.block _ (lt_of_some hq1.box) (fun e => hq1.ne e.symm)).trans hq1.box
  have hc2 : u2.cell? ⟨Qb, 0, none⟩ = some v := (cell_of_row u2 Qb 0 _ _ _ hbox2).trans rfl
  have hf2 : u2.frozen? ⟨Qb, 0, none⟩ = false := frozen_of_row u2 Qb 0 _ _ hbox2
  have hput : Qu (u2.setCell ⟨Qb, 0, none⟩ v') Qb B v' (l ++ [x]) ∧ u2.grownBy (u2.setCell ⟨Qb, 0, none⟩ v') (some Qb) := by
    have hne : v'.ownBlock ≠ some Qb := fun e => by
      rcases hvb with e2 | e2
      · exact h.ne (e2.symm.trans e)
      · rw [e2] at e
        have h3 := lt_of_some hq1.box
        cases e
        omega
    have hg : u2.grownBy (u2.setCell ⟨Qb, 0, none⟩ v') (some Qb) := ⟨rfl, rfl, rfl, by simp, fun k _ hk => heap_setCell_other u2 ⟨Qb, 0, none⟩ k v' (fun e => hk (by simp [e]))⟩
    exact ⟨⟨by rw [heap_setCell_same u2 Qb 0 _ 100 v' hbox2]; rfl, hbx.move hg (.inr hne), hne, hwl⟩, hg⟩
  obtain ⟨va, vc, hve⟩ := owns_shape hbx.own
  have HVO : Hid (v'.oneCell' = true ∧ v'.cells = #[v']) := hid (by rw [hve]; exact ⟨rfl, rfl⟩)
  obtain ⟨u3, HU3⟩ : ∃ u, Hid (u2.setCell ⟨Qb, 0, none⟩ v' = u) := ⟨_, rfl⟩
  rw [HU3.out] at hput
  have HF : Hid (Fr2 Qb v.ownBlock w u3) := hid ((((Fr2.of_below hbd).trans (Fr2.of_below (r := none) hb1) (fun k hk => by cases hk)).trans (Fr2.of_grown hg2) (fun k hk => .inl hk)).trans (Fr2.of_box (r := none) hput.2) (fun k hk => by cases hk))
  have HQ3 : Hid (Qu u3 Qb B v' (l ++ [x])) := hput.1
  have HVB : Hid (v'.ownBlock = v.ownBlock ∨ ∃ k, v'.ownBlock = some k ∧ w.heap.size ≤ k) := hid (by
    rcases hvb with e | e
    · exact .inl e
    · exact .inr ⟨_, e, Nat.le_trans hbd.size hb1.size⟩)
  have hS0 : Hid (QB Qb v u0) := hid ⟨hq0.cell⟩
  have hS1 : Hid (QB Qb v u1) := hid ⟨hq1.cell⟩
  have hS2 : Hid (QB Qb v u2) := hid ⟨hc2⟩
  have HC2 : Hid (u2.cell? ⟨Qb, 0, none⟩ = some v) := hc2
  have HF2 : Hid (u2.frozen? ⟨Qb, 0, none⟩ = false) := hf2
  have HBL : Hid ((Instr.buildSlice 100 1 #[(0, .agg R.toArray)]).run Tryd.prog u0 = .ok (.slice (some ⟨K, 0, none⟩) 1 1) u1) := hid (by rw [← HR.out, ← HK.out, ← HU1.out, ← HR.out]; exact run_build100 x hx u0)
  have HAP : Hid ((Builtin.append_ #[100, 100] 100 #[v, .slice (some ⟨K, 0, none⟩) 1 1]).run Tryd.prog u1 = .ok v' u2) := hap
  rw [HR.out]
  clear h hbd hq0 hb1 hq1 hr1 hap hbx hg2 hvb hwl hbox2 hc2 hf2 hput hve
  go_enter Tryd.func111, Tryd.ntmps111
  refine region_B (QB Qb v) (fun q => q == 9) (by kernel_rfl) ?_
  rw [HU0.out]
  refine takeT (i := 0) (v := ?_) rfl (by kernel_rfl) (by kernel_rfl) (by kernel_rfl) (fun _ _ _ h => h) (Or.inl ⟨by rfl, ?_⟩) ?_
  rotate_left
  · rintro w' _; go_simp; rfl
  try simp only [Act.put, List.setIfInBounds_toArray, List.set_cons_zero, List.set_cons_succ]
  refine takeT (i := 1) (v := ?_) rfl (by kernel_rfl) (by kernel_rfl) (by kernel_rfl) (fun _ _ _ h => h) (Or.inl ⟨by rfl, ?_⟩) ?_
  rotate_left
  · rintro w' _; go_simp; rfl
  try simp only [Act.put, List.setIfInBounds_toArray, List.set_cons_zero, List.set_cons_succ]
  refine takeT (i := 2) (v := ?_) rfl (by kernel_rfl) (by kernel_rfl) (by kernel_rfl) (fun _ _ _ h => h) (Or.inl ⟨by rfl, ?_⟩) ?_
  rotate_left
  · rintro w' _; go_simp; rfl
  try simp only [Act.put, List.setIfInBounds_toArray, List.set_cons_zero, List.set_cons_succ]
  refine takeB (i := 3) (v := v) rfl (by kernel_rfl) (by kernel_rfl) (by kernel_rfl) (by kernel_rfl) (fun _ _ _ h => h) (Or.inl ⟨by rfl, ?_⟩) hS0.out ?_
  · rintro w' ⟨c0⟩; go_simp; try rfl
  try simp only [Act.put, List.setIfInBounds_toArray, List.set_cons_zero, List.set_cons_succ]
  refine takeT (i := 4) (v := ?_) rfl (by kernel_rfl) (by kernel_rfl) (by kernel_rfl) (fun _ _ _ h => h) (Or.inl ⟨by rfl, ?_⟩) ?_
  rotate_left
  · rintro w' _; go_simp; rfl
  try simp only [Act.put, List.setIfInBounds_toArray, List.set_cons_zero, List.set_cons_succ]
  refine takeT (i := 5) (v := .agg R.toArray) rfl (by kernel_rfl) (by kernel_rfl) (by kernel_rfl) (fun _ _ _ h => h) (Or.inl ⟨by rfl, ?_⟩) ?_
  · rintro w' _; go_simp; try rfl
  try simp only [Act.put, List.setIfInBounds_toArray, List.set_cons_zero, List.set_cons_succ]
  refine readyB1 (i := 6) (by kernel_rfl) rfl (fun KK hKK => ?_)
  refine step_exec (by rfl) (.slice (some ⟨K, 0, none⟩) 1 1) (exec_buildS 100 1 _ rfl (.agg R.toArray) _ rfl HBL.out) ?_
  refine hKK.out _ _ (.inr fun _ => hS1.out) ?_
  clear hKK KK
  try simp only [Act.put, List.setIfInBounds_toArray, List.set_cons_zero, List.set_cons_succ]
  refine readyB1 (i := 7) (by kernel_rfl) rfl (fun KK hKK => ?_)
  refine step_exec (by rfl) v' (exec_call (v1 := v) (v2 := .slice (some ⟨K, 0, none⟩) 1 1) _ _ 100 rfl rfl rfl HAP.out) ?_
  refine hKK.out _ _ (.inr fun _ => hS2.out) ?_
  clear hKK KK
  try simp only [Act.put, List.setIfInBounds_toArray, List.set_cons_zero, List.set_cons_succ]
  refine takeT (i := 8) (v := ?_) rfl (by kernel_rfl) (by kernel_rfl) (by kernel_rfl) (fun _ _ _ h => h) (Or.inl ⟨by rfl, ?_⟩) ?_
  rotate_left
  · rintro w' _; go_simp; rfl
  try simp only [Act.put, List.setIfInBounds_toArray, List.set_cons_zero, List.set_cons_succ]
  refine readyB1 (i := 9) (by kernel_rfl) rfl (fun KK hKK => ?_)
  refine step_skip (by rfl) (exec_store1 _ _ rfl ⟨Qb, 0, none⟩ v' v rfl rfl HVO.out.1 HVO.out.2 HC2.out HF2.out) ?_
  rw [HU3.out]
  refine hKK.out _ _ (.inl rfl) ?_
  clear hKK KK
  try simp only [Act.put, List.setIfInBounds_toArray, List.set_cons_zero, List.set_cons_succ]
  refine doneB (by kernel_rfl) ?_ _
  go_wp2
  go_end0
  exact ⟨rfl, v', HQ3.out, HF.out, HVB.out⟩
end Go.Proofs.YtjgjeedablgmeaaDoor
