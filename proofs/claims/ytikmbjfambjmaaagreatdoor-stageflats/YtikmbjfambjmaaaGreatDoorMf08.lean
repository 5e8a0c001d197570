import Derived.Test.YtikmbjfambjmaaaGreatDoorMf07
import Derived.Maps.OwnIn
import Derived.Great.BuildSlice
import Derived.Test.YtikmbjfambjmaaaGreatDoorMf04
import Derived.Test.YtikmbjfambjmaaaGreatDoorMf06
import Derived.Maps.AppendAt
namespace Go.Proofs.YtikmbjfambjmaaaGreatDoor
open Go.RowKit Go.Shelf Go.Maps
variable [Inhabited Er]
set_option linter.unusedVariables false
set_option linter.unusedSectionVars false
set_option linter.unusedSimpArgs false
attribute [local go_sem] Oper.semAt_some
structure Mv (w w' : World) (v v' : Value) : Prop where
  os : w'.os = w.os
  tape : w'.tape = w.tape
  output : w'.output = w.output
  size : w.heap.size ≤ w'.heap.size
  blk : ∀ k, k < w.heap.size → some k ≠ v.ownBlock → w'.heap[k]? = w.heap[k]?
  at_ : v'.ownBlock = v.ownBlock ∨ ∀ k, v'.ownBlock = some k → w.heap.size ≤ k
theorem Mv.refl (w : World) (v : Value) : Mv w w v v := ⟨rfl, rfl, rfl, Nat.le_refl _, fun _ _ _ => rfl, .inl rfl⟩
theorem Mv.trans {a b c : World} {u v x : Value} (h : Mv a b u v) (k : Mv b c v x) : Mv a c u x := by
  have hs := h.size
  refine ⟨k.os.trans h.os, k.tape.trans h.tape, k.output.trans h.output, Nat.le_trans h.size k.size, fun i hi hn => ?_, ?_⟩
  · refine (k.blk i (by omega) (fun e => ?_)).trans (h.blk i hi hn)
    rcases h.at_ with g | g
    · exact hn (e.trans g)
    · have := g i e.symm; omega
  · rcases k.at_ with g | g
    · rcases h.at_ with g' | g'
      · exact .inl (g.trans g')
      · exact .inr fun i hi => g' i (g ▸ hi)
    · exact .inr fun i hi => by have := g i hi; omega
theorem Mv.app {w wx w1 : World} {v v' : Value} (h0 : w.grownBy wx none) (hg : wx.grownBy w1 v.ownBlock) (hl : v'.ownBlock = v.ownBlock ∨ v'.ownBlock = some wx.heap.size) : Mv w w1 v v' := by
  have hs := h0.size
  refine ⟨hg.os.trans h0.os, hg.tape.trans h0.tape, hg.output.trans h0.output, Nat.le_trans h0.size hg.size, fun k hk hn => (hg.block k (by omega) hn).trans (h0.block k hk (by simp)), ?_⟩
  rcases hl with h | h
  · exact .inl h
  · exact .inr fun k hk => by rw [h] at hk; simp at hk; omega
theorem Mv.below {w w' : World} {v v' : Value} (h : Mv w w' v v') {B : Nat} (hB : ∀ k, v.ownBlock = some k → B ≤ k) (hw : B ≤ w.heap.size) : Below B w w' :=
  ⟨h.os, h.tape, h.output, h.size, fun k hk => h.blk k (by omega) (fun e => by have := hB k e.symm; omega)⟩
theorem Mv.drew {w w' : World} {v v' : Value} (h : Mv w w' v v') (n : Nat) : Mv w (w'.drewN n) v v' := ⟨h.os, h.tape, h.output, h.size, h.blk, h.at_⟩
theorem Kx.mv {X l : Nat} {W W1 : World} {v v1 : Value} (hb : Boxed W X 72 v) (h : Mv W W1 v v1) (hne : some X ≠ v.ownBlock) (hlt : ∀ k, v1.ownBlock = some k → k < W1.heap.size) : Kx X l W (W1.setCell ⟨X, 0, none⟩ v1) := by
  have hX := hb.lt
  have hs := h.size
  have hb1 : W1.heap[X]? = W.heap[X]? := h.blk X hX hne
  have hc : (W1.setCell ⟨X, 0, none⟩ v1).cell? ⟨X, 0, none⟩ = some v1 := World.cell?_setCell_same (u := v) _ _ _ ((World.cell?_of_block (a := ⟨X, 0, none⟩) hb1).trans hb.cell)
  refine ⟨h.os, h.tape, h.output, by simp [World.setCell]; exact hs, fun k ⟨u, h1, h2⟩ => ?_, fun k h1 h2 h3 h4 => ?_, fun _ k ⟨u, h1, h2⟩ => by rw [hc] at h1; cases h1; simp [World.setCell]; exact hlt k h2⟩
  · rw [hc] at h1
    cases h1
    rcases h.at_ with g | g
    · exact .inl ⟨v, hb.cell, by rw [← g]; exact h2⟩
    · exact .inr (g k h2)
  · rw [Below.heap_setCell _ _ _ k h2]
    exact h.blk k h1 (fun e => h4 ⟨v, hb.cell, e.symm⟩)
theorem Mv.grow {A B : World} (v : Value) (h : A.grownBy B none) : Mv A B v v := ⟨h.os, h.tape, h.output, h.size, fun k hk _ => h.block k hk (by simp), .inl rfl⟩
theorem Mv.put {w W : World} {v u : Value} (h : Mv w W v u) {l : Nat} (o : Obj) (hl : w.heap.size ≤ l) : Mv w (W.putObj l o) v u :=
  ⟨h.os, h.tape, h.output, by rw [World.putObj_size]; exact h.size, fun k hk hn => (World.putObj_heap_other (by omega)).trans (h.blk k hk hn), h.at_⟩
theorem owns_cells {W : World} {B : Nat} {u : Value} {n : Nat} {xs : List Value} (h : W.ownsRow B 84 22 u n xs) {k : Nat} (hk : u.ownBlock = some k) : ∃ cur, W.heap[k]? = some (.cells cur 84 (0, 0)) := by
  obtain ⟨_, ⟨rfl, _⟩ | ⟨g, cap, cur, rfl, _, h2, _⟩⟩ := h
  · cases hk
  · simp [Value.ownBlock] at hk; subst hk; exact ⟨cur, h2⟩
theorem keeps_mv {W W1 : World} {X : Nat} {u u1 : Value} {B n : Nat} {xs : List Value} (hb : Boxed W X 72 u) (ho : W.ownsRow B 84 22 u n xs) (h : Mv W W1 u u1) (Bx : Nat) : KeepsFrom Bx W (W1.setCell ⟨X, 0, none⟩ u1) := by
  refine ⟨by simp [World.setCell]; exact h.size, fun k o _ hk hc => ?_⟩
  have hkX : k ≠ X := fun e => by rw [e, show W.heap[X]? = _ from hb] at hk; cases hk; cases hc
  rw [Below.heap_setCell _ _ _ k hkX, h.blk k (Array.getElem?_eq_some_iff.1 hk).1 (fun e => ?_)]
  · exact hk
  · obtain ⟨cur, hcur⟩ := owns_cells ho e.symm
    rw [hcur] at hk; cases hk; cases hc
theorem Mv.store {w W1 : World} {v u1 : Value} (h : Mv w W1 v u1) {X : Nat} (hX : w.heap.size ≤ X) (y : Value) : Mv w (W1.setCell ⟨X, 0, none⟩ y) v u1 :=
  ⟨h.os, h.tape, h.output, by simp [World.setCell]; exact h.size, fun k hk hn => (Below.heap_setCell _ _ _ k (by show k ≠ X; omega)).trans (h.blk k hk hn), h.at_⟩
theorem results_1 {fn : Func} {p : Tmp} (h : fn.results = #[.tmp p]) (tmps : Array Value) (w : World) (x : Value) (hp : tmps.getD p undef = x) : (results fn tmps).run Tryz.prog w = .ok x w := by
  have hp' : tmps[p]?.getD undef = x := by simpa using hp
  simp [results, h, hp']
theorem ret_1 {fn : Func} {p : Tmp} (h : fn.results = #[.tmp p]) (tmps : Array Value) (W : World) (D : Nat) (x : Value) (hp : tmps.getD p undef = x) (hK : W.heap[D]? = some (.deferred (some []))) (R : Ending → World → Prop) (hR : R (.returned x) (W.putObj D (.deferred none))) :
    bodyPostM Fence.wide 3 Tryz.prog fn R .ret { tmps := tmps, defers := [{ target := .collected D, args := #[] }] } W :=
  ⟨by simp, .inl ⟨_, _, rfl, run_takeDeferred hK, _, results_1 h _ _ _ hp, hR⟩⟩
theorem Tryz.info84 : (Tryz.prog.info? 84).map (fun i => (i.zero, i.size)) = some (some (.agg (erV ⟨0, [], z20⟩).toArray), 22) := by kernel_rfl
theorem Tryz.bytes84 : (Tryz.prog.info? 84).map (fun i => i.bytes) = some 48 := by kernel_rfl
set_option maxRecDepth 20000 in
theorem run_build51 (x : Er) (h : x.id.length = 20) (w : World) : (Instr.buildSlice 72 1 #[(0, .agg (erV x).toArray)]).run Tryz.prog w = .ok (.slice (some ⟨w.heap.size, 0, none⟩) 1 1) (w.alloc (.cells (erV x).toArray 84)) := by
  have hi := Tryz.info84
  cases hq : Tryz.prog.info? 84 with
  | none => rw [hq] at hi; cases hi
  | some i =>
    rw [hq] at hi
    simp only [Option.map_some, Option.some.injEq, Prod.mk.injEq] at hi
    obtain ⟨hz, hs⟩ := hi
    refine run_buildSlice w 72 84 1 _ (erV x).toArray i _ Tryz.underlying72 hq hz (by rw [hs]; decide) (by rw [hs]; decide) ?_
    rw [hs]
    obtain ⟨a0, a1, a2, a3, a4, a5, a6, a7, a8, a9, a10, a11, a12, a13, a14, a15, a16, a17, a18, a19, e⟩ := list20 x.id h
    unfold erV
    rw [e]
    kernel_rfl
theorem wpListIn_buildSlice {F : Fence} {nF : Nat} {P : Program} {ops : Array Oper} {rest : List Oper} {o : Oper} {a : Act} {w w' : World} {Q : Exit → Act → World → Prop} (hg : o.guard = none) (t len : Nat) (x : Operand) (ho : o.op = .buildSlice t len #[(0, x)]) (u v : Value) (hx : a.eval x = u)
    (hr : (Instr.buildSlice t len #[(0, u)]).run P w = .ok v w')
    (h : wpListIn F nF P ops Q rest (a.put o.dst v) w') : wpListIn F nF P ops Q (o :: rest) a w := by
  refine wpListIn_plain hg fun K hK => ?_
  unfold Oper.wpIn
  refine ⟨by simp [Oper.about, ho], ?_⟩
  rw [Oper.semAt_plain F _ _ (by rw [ho]; intro c hc'; cases hc')]
  unfold execOp
  simp [ho, hx, hr, Result.andThen]
  exact hK _ _ h
theorem news_rowE (w : World) (RF : List Value) (t : TypeId) : ∀ j u, RF[j]? = some u → (w.alloc (.cells RF.toArray t)).cell? ((⟨w.heap.size, 0, none⟩ : Addr).add j) = some u := fun j u hj => by
  have h := range_row (heap_alloc_new w (.cells RF.toArray t)) j u hj
  rw [addr_add]
  exact h
theorem Tryz.info9E : (Tryz.prog.info? 9).map (fun i => (i.zero, i.size, i.bytes)) = some (some (.string ⟨#[]⟩), 1, 16) := by kernel_rfl
end Go.Proofs.YtikmbjfambjmaaaGreatDoor
namespace Go.Proofs.YtikmbjfambjmaaaGreatDoor
open Go.RowKit
set_option linter.unusedVariables false
theorem owns_shape {w : World} {B : Nat} {e : TypeId} {s : Nat} {v : Value} {n : Nat} {xs : List Value} (h : w.ownsRow B e s v n xs) : ∃ a cp, v = .slice a n cp := by
  obtain ⟨_, ⟨rfl, rfl⟩ | ⟨g, cap, cur, rfl, _⟩⟩ := h
  · exact ⟨none, 0, rfl⟩
  · exact ⟨_, cap, rfl⟩
theorem wpList_append_run {P : Program} {w : World} {ops : Array Oper} {rest : List Oper} {o : Oper} {a : Act} {Q : Exit → Act → World → Prop} (hgd : o.guard = none) (s x : Operand) (t : TypeId)
    (ho : o.op = .call { callee := .builtin .append, args := #[s, x], argTypes := #[t, t] }) (sv xv v : Value) (w2 : World) (hs : a.eval s = sv) (hx : a.eval x = xv) (hrun : (Builtin.append_ #[t, t] o.type #[sv, xv]).run P w = .ok v w2) (h : wpList P ops Q rest (a.put o.dst v) w2) :
    wpList P ops Q (o :: rest) a w :=
  wpList_plain hgd fun K hK => by
    unfold Oper.wp execOp
    simp only [ho, resolve, invoke, builtin, Sem.run_bind, Sem.run_pure, Result.andThen_ok, List.map_toArray, List.map_cons, List.map_nil, hs, hx, hrun]
    exact hK _ _ h
theorem append_nil (cap : Nat) (w : World) : (Builtin.append_ #[26, 26] 26 #[.slice none 0 0, .slice none 0 cap]).run Tryz.prog w = .ok (.slice none 0 0) w := by kernel_rfl
theorem append_first (a : Option Addr) (cap : Nat) (zs : List Int) (w : World) (B : Nat) (hB : B ≤ w.heap.size) (hl : zs.length ≤ 300000) (hc : 0 < zs.length → ∃ b off, a = some ⟨b, off, none⟩ ∧ At w b off zs) :
    ∃ w1 ao cp, (Builtin.append_ #[26, 26] 26 #[.slice none 0 0, .slice a zs.length cap]).run Tryz.prog w = .ok (.slice ao zs.length cp) w1 ∧ w1.ownsRow B 5 1 (.slice ao zs.length cp) zs.length (row .u8 zs) ∧ w.grownBy w1 none := by
  obtain ⟨i5, hi, hz0, hz1, hz2⟩ := info_parts Tryz.info5
  cases a with
  | none =>
    have h0 : zs.length = 0 := by
      rcases Nat.eq_zero_or_pos zs.length with h | h
      · exact h
      · obtain ⟨b, off, h1, -⟩ := hc h; cases h1
    obtain rfl : zs = [] := List.eq_nil_of_length_eq_zero h0
    exact ⟨w, none, 0, append_nil cap w, World.ownsRow_nil w B 5 1, World.grownBy.refl _ _⟩
  | some ad =>
    obtain ⟨v', w', hr, h2, h3, -, -⟩ := run_append_own_at (P := Tryz.prog) w B 26 26 5 i5 (.int .u8 0) 1 1 Tryz.underlying26 hi hz0 hz1 hz2 rfl (by omega) (.slice none 0 0) 0 [] (World.ownsRow_nil w B 5 1) ad zs.length cap (row .u8 zs) (by rw [row_len]; omega)
      (fun j u hj => by
        have hjm : j < zs.length := by rcases Nat.lt_or_ge j zs.length with h | h; exact h; rw [List.getElem?_eq_none (by rw [row_len]; exact h)] at hj; cases hj
        obtain ⟨b, off, h1, hat⟩ := hc (by omega)
        cases h1
        rw [row_at .u8 zs j hjm] at hj
        cases hj
        rw [addr_add]; exact hat j hjm) (row_one _ _) (by unfold maxLen; omega) (by omega) hB
    rw [Nat.zero_add, List.nil_append] at h2
    obtain ⟨ao, cp, rfl⟩ := owns_shape h2
    exact ⟨w', ao, cp, hr, h2, h3⟩
theorem slice22lh (b L cp m : Nat) (w : World) (h1 : m + 64 ≤ L) (h2 : L ≤ cp) : (Instr.slice 26 (.slice (some ⟨b, 0, none⟩) L cp) (some (.int .i64 m)) (some (.int .i64 ((m : Int) + 64))) none).run Tryz.prog w = .ok (.slice (some ⟨b, m, none⟩) 64 (cp - m : Nat)) w := by
  rw [run_slice_lh w 26 _ L cp und22 .i64 .i64 m ((m : Int) + 64) (by omega) (by omega) (by omega), size22r]
  simp only [Result.andThen_ok, sliced]
  rw [if_neg (by omega)]
  simp [addr_add]
  omega
theorem pad_iff2 (n j : Nat) (h : j ≤ pads n) : ((n + 1 + j) % 64 = 56) ↔ j = pads n := by unfold pads at *; omega
set_option maxRecDepth 20000 in
set_option maxHeartbeats 4000000 in
theorem ref_any (a : Option Addr) (cap : Nat) (zs : List Int) (w : World) (hl : zs.length ≤ 300000) (hz : IsB zs) (hc : 0 < zs.length → ∃ b off, a = some ⟨b, off, none⟩ ∧ b < w.heap.size ∧ At w b off zs) :
    Calls Tryz.prog 12 #[.slice a zs.length cap] w fun e w' => e = .returned (.agg (row .u8 (sha zs)).toArray) ∧ Below w.heap.size w w' := by
  obtain ⟨i5, hi, hz0, hz1, hz2⟩ := info_parts Tryz.info5
  obtain ⟨zr, HZ⟩ : ∃ zr : Array Value, Hid (zr = (row .u8 z20).toArray) := ⟨_, rfl⟩
  have hz24 := zero24
  rw [← HZ.out] at hz24
  obtain ⟨wA, HWA⟩ : ∃ wA, Hid (wA = w.alloc (.cells zr 23)) := ⟨_, rfl⟩
  have hsA : wA.heap.size = w.heap.size + 1 := by rw [HWA.out]; simp
  have HRA : Hid (wA.heap[w.heap.size]? = some (.cells (row .u8 z20).toArray 23 (0, 0))) := hid (by rw [HWA.out, HZ.out]; exact heap_alloc_new w _)
  have HBA : Hid (Below w.heap.size w wA) := hid (by rw [HWA.out]; exact (Below.refl _ w).alloc (Nat.le_refl _) _)
  obtain ⟨w1, ao, cp, hrun, hown, hgrow⟩ := append_first a cap zs wA (w.heap.size + 1) (by omega) hl (fun h => by obtain ⟨b, off, h1, h2, h3⟩ := hc h; exact ⟨b, off, h1, fun i hi => (HBA.out.cell (p := ⟨b, off + i, none⟩) h2).trans (h3 i hi)⟩)
  obtain ⟨n, HN⟩ : ∃ n, Hid (n = zs.length) := ⟨_, rfl⟩
  rw [← HN.out] at hrun hown hl ⊢
  have hg1 := hgrow.size
  have HR1 : Hid (w1.heap[w.heap.size]? = some (.cells (row .u8 z20).toArray 23 (0, 0))) := (hgrow.block _ (by omega) (by simp)).trans HRA.out
  have HB1 : Hid (Below w.heap.size w w1) := HBA.out.grown hgrow (by omega) (fun k hk => by cases hk)
  have hz1s : w.heap.size + 1 ≤ w1.heap.size := by omega
  rw [HWA.out] at hrun
  clear hgrow hg1 HRA HBA hsA HWA
  go_enter Tryz.func12, Tryz.ntmps12
  go_wp2_with (first
    | refine wpList_append_run rfl _ _ 26 rfl (.slice none 0 0) (.slice a n cap) _ _ rfl rfl hrun ?_
    | (refine wpList_append_lies _ rfl _ _ _ rfl (w.heap.size + 1) 5 i5 (.int .u8 0) 1 1 Tryz.underlying26 hi hz0 hz1 hz2 rfl (by omega) (.slice ao n cp) n (row .u8 zs) rfl (by exact hown.alloc _) ⟨w1.heap.size, 0, none⟩ 1 1 [.int .u8 128] rfl rfl (by intro j u hj; match j, hj with | 0, hj => simp at hj; subst hj; simp [Addr.add]) (by intro u hu; simp at hu; subst hu; rfl) (by omega) (by unfold maxLen; omega) (by omega) (by simp; omega) (w1.heap.size + 1) (by simp) ?_; intro g2 cp2 w2 hown2 hgrow2 hat2 hlt2))
  have HX2 : Hid (Below (w.heap.size + 1) w1 w2) := below_step (Below.refl _ _) hz1s (World.grownBy_alloc w1 _ none) hgrow2 (fun k hk => (own_lt hown k hk).1)
  have HO2 : Hid (w2.ownsRow (w.heap.size + 1) 5 1 (.slice (some ⟨g2, 0, none⟩) (n + 1 + 0 : Nat) cp2) (n + 1 + 0) (row .u8 (zs ++ [128]))) := hid (by rw [row_snoc]; exact hown2)
  clear hown2 hgrow2 hat2 hown hrun
  have hp63 := pads_le n
  go_loopg [3] (pads n) (fun g s wr => ∃ (j gb cp : Nat) (ls : List Int), j ≤ pads n ∧ g = pads n - j ∧ s = .slice (some ⟨gb, 0, none⟩) (n + 1 + j : Nat) cp ∧ Hid (ls = zs ++ 128 :: List.replicate j 0) ∧ wr.ownsRow (w.heap.size + 1) 5 1 (.slice (some ⟨gb, 0, none⟩) (n + 1 + j : Nat) cp) (n + 1 + j) (row .u8 ls) ∧ Hid (Below (w.heap.size + 1) w1 wr))
  case atStart => exact ⟨0, g2, cp2, zs ++ [128], by omega, rfl, rfl, rfl, HO2.out, HX2⟩
  case round =>
    clear HO2 HX2 hlt2
    obtain ⟨j, gb, cp, ls, hj, hk, rfl, HLs, hown, HB⟩ := hrel
    by_cases hlt : j < pads n
    · have hc : ((n : Int) + 1 + j) % 64 ≠ 56 := by have := pad_iff2 n j hj; omega
      go_wp2_with (refine wpList_append_lies _ rfl _ _ _ rfl (w.heap.size + 1) 5 i5 (.int .u8 0) 1 1 Tryz.underlying26 hi hz0 hz1 hz2 rfl (by omega) (.slice (some ⟨gb, 0, none⟩) (n + 1 + j : Nat) cp) (n + 1 + j) (row .u8 ls) rfl (by exact hown.alloc _) ⟨wr.heap.size, 0, none⟩ 1 1 [.int .u8 0] rfl rfl (by intro j u hj; match j, hj with | 0, hj => simp at hj; subst hj; simp [Addr.add]) (by intro u hu; simp at hu; subst hu; rfl) (by omega) (by unfold maxLen; omega) (by omega) (by have := HB.out.size; simp; omega) (wr.heap.size + 1) (by simp) ?_; intro g2 cp2 w3 hown1 hgrow hat hlt2)
      have HB2 : Hid (Below (w.heap.size + 1) w1 w3) := below_step HB.out hz1s (World.grownBy_alloc wr _ none) hgrow (fun k hk => (own_lt hown k hk).1)
      have HO : Hid (w3.ownsRow (w.heap.size + 1) 5 1 (.slice (some ⟨g2, 0, none⟩) (n + 1 + j + 1 : Nat) cp2) (n + 1 + j + 1) (row .u8 (ls ++ [0]))) := hid (by rw [row_snoc]; exact hown1)
      clear hown1 hgrow hat hown hlt2
      go_wp2
      go_roundg (pads n - (j + 1))
      case measure => omega
      case rel => exact ⟨j + 1, g2, cp2, ls ++ [0], by omega, rfl, rfl, hid (by rw [HLs.out, List.replicate_succ', List.append_assoc, List.cons_append]), HO.out, HB2⟩
    · obtain rfl : j = pads n := by omega
      have hc0 : (n + 1 + pads n) % 64 = 56 := (pad_iff2 n (pads n) (Nat.le_refl _)).2 rfl
      obtain ⟨q, HQ⟩ : ∃ q, Hid (q = n + 1 + pads n) := ⟨_, rfl⟩
      have hq64 : q ≤ n + 64 := by have := HQ.out; omega
      rw [← HQ.out] at hown
      have hc2 : (q : Int) % 64 = 56 := by have := HQ.out; omega
      rw [← HQ.out]
      have HLq : Hid (ls = zs ++ 128 :: List.replicate (pads n) 0) := HLs.out
      clear hlt hj hk hc0
      go_wp2
      clear hc2
      go_loopg [3, 5] 8 (fun g s i wr => ∃ (j gb cp : Nat) (ls : List Int), j ≤ 8 ∧ g = 8 - j ∧ i = .int .i64 (7 - (j : Int)) ∧ s = .slice (some ⟨gb, 0, none⟩) (q + j : Nat) cp ∧ Hid (ls = zs ++ (128 :: List.replicate (pads n) 0 ++ (List.range j).map (be8 (8 * n)))) ∧ wr.ownsRow (w.heap.size + 1) 5 1 (.slice (some ⟨gb, 0, none⟩) (q + j : Nat) cp) (q + j) (row .u8 ls) ∧ Hid (Below (w.heap.size + 1) w1 wr))
      case atStart => exact ⟨0, gb, cp, ls, by omega, rfl, rfl, rfl, hid (by rw [HLq.out]; simp), hown, HB⟩
      case round =>
        clear hown HB
        obtain ⟨j, gb, cp, ls, hj, hk, rfl, rfl, HLs, hown, HB⟩ := hrel
        by_cases hlt : j < 8
        · obtain ⟨x, HX⟩ : ∃ x, Hid (x = be8 (8 * n) j) := ⟨_, rfl⟩
          obtain ⟨k, HK⟩ : ∃ k : Nat, Hid (k = 7 - j) := ⟨_, rfl⟩
          have hk7 : (7 : Int) - j = (k : Int) := by have := HK.out; omega
          have hk8 : k ≤ 7 := by have := HK.out; omega
          rw [hk7]
          have hx : (n : Int) * 8 / 2 ^ (8 * k) % 256 = x := by rw [HX.out, HK.out]; unfold be8; rw [Int.natCast_emod, Int.natCast_ediv, Int.natCast_mul, Int.natCast_pow, Int.mul_comm]; rfl
          go_wp2_with (refine wpList_append_lies _ rfl _ _ _ rfl (w.heap.size + 1) 5 i5 (.int .u8 0) 1 1 Tryz.underlying26 hi hz0 hz1 hz2 rfl (by omega) (.slice (some ⟨gb, 0, none⟩) (q + j : Nat) cp) (q + j) (row .u8 ls) rfl (by exact hown.alloc _) ⟨wr.heap.size, 0, none⟩ 1 1 [.int .u8 x] rfl rfl (by intro j u hj; match j, hj with | 0, hj => simp at hj; subst hj; simp [Addr.add]) (by intro u hu; simp at hu; subst hu; rfl) (by omega) (by unfold maxLen; omega) (by omega) (by have := HB.out.size; simp; omega) (wr.heap.size + 1) (by simp) ?_; intro g2 cp2 w3 hown1 hgrow hat hlt2)
          have HB2 : Hid (Below (w.heap.size + 1) w1 w3) := below_step HB.out hz1s (World.grownBy_alloc wr _ none) hgrow (fun k hk => (own_lt hown k hk).1)
          have HO : Hid (w3.ownsRow (w.heap.size + 1) 5 1 (.slice (some ⟨g2, 0, none⟩) (q + j + 1 : Nat) cp2) (q + j + 1) (row .u8 (ls ++ [x]))) := hid (by rw [row_snoc]; exact hown1)
          clear hown1 hgrow hat hown hx hlt2
          go_wp2
          go_roundg (8 - (j + 1))
          case measure => omega
          case rel => exact ⟨j + 1, g2, cp2, ls ++ [x], by omega, rfl, by have := HK.out; go_num, rfl, hid (by rw [HLs.out, HX.out, List.range_succ, List.map_append, List.append_assoc, List.append_assoc]; rfl), HO.out, HB2⟩
        · obtain rfl : j = 8 := by omega
          have HE : Hid (ls = zs ++ endOf n) := hid (by rw [HLs.out]; rfl)
          obtain ⟨T, HT⟩ : ∃ T, Hid (T = q + 8) := ⟨_, rfl⟩
          have hTl : ls.length = T := by rw [HE.out, List.length_append, endOf_len, ← HN.out]; have := HT.out; have := HQ.out; omega
          have hT64 : T % 64 = 0 := by have := end_mod n; rw [← hTl, HE.out, List.length_append, ← HN.out]; exact this
          have hTb : T ≤ 300200 := by have := HT.out; omega
          have hlsb : IsB ls := by rw [HE.out]; exact hz.app (endOf_isB n)
          rw [← HT.out] at hown
          rw [← HT.out]
          have hcpT : T ≤ cp := by
            rcases hown.2 with ⟨_, h0⟩ | ⟨g, cap, cur, hv, _, _, h1, _⟩
            · have := HT.out; omega
            · simp only [Value.slice.injEq] at hv; omega
          have hgbl := own_lt hown gb rfl
          have HAt : Hid (∀ i, i < T → wr.cell? ⟨gb, i, none⟩ = some (.int .u8 (ls.getD i 0))) := fun i hi => by rw [hown.cellAt i (by omega), row_at .u8 ls i (by omega)]
          have HRB : Hid (wr.heap[w.heap.size]? = some (.cells (row .u8 z20).toArray 23 (0, 0))) := (HB.out.block _ (by omega)).trans HR1.out
          have HBB : Hid (Below w.heap.size w wr) := HB1.out.trans (HB.out.mono (by omega))
          obtain ⟨wB, rfl⟩ : ∃ wB, wB = wr := ⟨_, rfl⟩
          have hzB : w.heap.size + 1 ≤ wB.heap.size := by have := HB.out.size; omega
          have HTh : Hid ((wB.alloc (.cells #[.int .u32 0, .int .u32 0, .int .u32 0, .int .u32 0, .int .u32 0] 70)).there wB.heap.size 0 5) := there_cells (heap_alloc_new wB _) rfl
          obtain ⟨w5, HW5⟩ : ∃ w5, Hid (w5 = (wB.alloc (.cells #[.int .u32 0, .int .u32 0, .int .u32 0, .int .u32 0, .int .u32 0] 70)).setCells wB.heap.size 0 (#[.int .u32 1732584193, .int .u32 4023233417, .int .u32 2562383102, .int .u32 271733878, .int .u32 3285377520] : Array Value).toList) := ⟨_, rfl⟩
          have H9 : Hid (w5.heap[wB.heap.size]? = some (.cells #[.int .u32 1732584193, .int .u32 4023233417, .int .u32 2562383102, .int .u32 271733878, .int .u32 3285377520] 70 (0, 0))) := hid (by rw [HW5.out]; exact setCells5 _ _ _ _ _ _ _ _ _ _ _ _ _ (heap_alloc_new wB _))
          have HX5 : Hid (Below wB.heap.size wB w5) := hid (by rw [HW5.out]; exact below_setCells (Nat.le_refl _) _ _ _ _ ((Below.refl _ _).alloc (Nat.le_refl _) _))
          have hz5 : wB.heap.size < w5.heap.size := by rw [HW5.out, size_setCells]; simp
          replace hown := hid hown
          replace hTl := hid hTl
          obtain ⟨NB, HNB⟩ : ∃ NB, Hid (NB = T / 64) := ⟨_, rfl⟩
          have hNB : Hid (T = 64 * NB) := hid (by have := HNB.out; omega)
          clear hj hk hlt
          go_wp2_with (refine wpList_store_mid rfl 70 _ _ rfl wB.heap.size 0 _ rfl rfl HTh.out Tryz.size70 (by simp [Value.oneCell']) ?_; rw [← HW5.out])
          go_loopg [7] NB (fun g i wr => ∃ (k : Nat) (s : S5), k ≤ NB ∧ g = NB - k ∧ i = .int .i64 (64 * k : Nat) ∧ Hid (s = ab ls k) ∧ Hid (wr.heap[wB.heap.size]? = some (.cells #[.int .u32 s.a, .int .u32 s.b, .int .u32 s.c, .int .u32 s.d, .int .u32 s.e] 70 (0, 0))) ∧ Hid (Below wB.heap.size wB wr) ∧ wB.heap.size < wr.heap.size)
          case atStart => exact ⟨0, init5, by omega, rfl, rfl, rfl, H9, HX5, hz5⟩
          case round =>
            clear H9 HX5 hz5
            obtain ⟨k, ⟨a0, b0, c0, d0, e0⟩, hk, hg, rfl, HSt, HR, HBr, hzr⟩ := hrel
            obtain ⟨p, HP⟩ : ∃ p, Hid (p = 64 * k) := ⟨_, rfl⟩
            rw [← HP.out]
            by_cases hlt : k < NB
            · have hpT : (p : Int) < T := by have := HP.out; have := hNB.out; omega
              have hp64 : p + 64 ≤ T := by have := HP.out; have := hNB.out; omega
              obtain ⟨q0, q1, q2, q3, q4⟩ := u5_cells HR.out
              obtain ⟨ck, HCK⟩ : ∃ ck, Hid (ck = (ls.drop (64 * k)).take 64) := ⟨_, rfl⟩
              have hckl : ck.length = 64 := by rw [HCK.out, List.length_take, List.length_drop, hTl.out]; have := HP.out; omega
              have hckb : IsB ck := by rw [HCK.out]; exact (hlsb.drop _).take _
              have hat : At wr gb p ck := fun i hi => by
                have e : ck.getD i 0 = ls.getD (p + i) 0 := by rw [HCK.out, List.getD_eq_getElem?_getD, List.getElem?_take, if_pos (by omega), List.getElem?_drop, ← List.getD_eq_getElem?_getD, HP.out]
                rw [e]; exact (HBr.out.cell (p := ⟨gb, p + i, none⟩) hgbl.2).trans (HAt.out _ (by omega))
              have hwp : IntKind.i64.wrap ((p : Int) + 64) = (p : Int) + 64 := by rw [IntKind.wrap_i64]; omega
              have hsl := fun w => slice22lh gb T cp p w hp64 hcpT
              obtain ⟨cpx, HCX⟩ : ∃ c, Hid (c = cp - p) := ⟨_, rfl⟩
              rw [← HCX.out] at hsl
              obtain ⟨s1, HS1⟩ : ∃ s1, Hid (s1 = comp ⟨a0, b0, c0, d0, e0⟩ ck) := ⟨_, rfl⟩
              have hblk := fun w1 (h : At w1 gb p ck) (h2 : gb < w1.heap.size) => block_any ⟨a0, b0, c0, d0, e0⟩ gb p cpx ck w1 (by rw [HSt.out]; exact ab_ok _ _) hckl hckb h h2
              rw [← HS1.out] at hblk
              obtain ⟨x0, x1, x2, x3, x4⟩ := s1
              have hblk' : ∀ w1, At w1 gb p ck → gb < w1.heap.size → Calls Tryz.prog 20 #[.agg #[.int .u32 a0, .int .u32 b0, .int .u32 c0, .int .u32 d0, .int .u32 e0], .slice (some ⟨gb, p, none⟩) 64 cpx] w1 fun e w' => e = .returned (.agg #[.int .u32 x0, .int .u32 x1, .int .u32 x2, .int .u32 x3, .int .u32 x4]) ∧ Below w1.heap.size w1 w' := hblk
              clear hblk
              have hgz : gb < wr.heap.size := by omega
              replace hckl := hid hckl
              go_wp2
              go_region_with (go_at_call 20; refine (hblk' _ (by exact hat) (by exact hgz)).mono ?_; rintro e w6 ⟨rfl, hb6⟩; have H6 := hid ((hb6.block wB.heap.size hzr).trans HR.out); obtain ⟨y0, y1, y2, y3, y4⟩ := u5_cells H6.out; have g0 := frozen_of_row w6 wB.heap.size 0 _ 70 H6.out; have g1 := frozen_of_row w6 wB.heap.size 1 _ 70 H6.out; have g2 := frozen_of_row w6 wB.heap.size 2 _ 70 H6.out; have g3 := frozen_of_row w6 wB.heap.size 3 _ 70 H6.out; have g4 := frozen_of_row w6 wB.heap.size 4 _ 70 H6.out; replace hb6 := hid hb6)
              have HF6 : Hid ((((((w6.setCell ⟨wB.heap.size, 0, none⟩ (.int .u32 x0)).setCell ⟨wB.heap.size, 1, none⟩ (.int .u32 x1)).setCell ⟨wB.heap.size, 2, none⟩ (.int .u32 x2)).setCell ⟨wB.heap.size, 3, none⟩ (.int .u32 x3)).setCell ⟨wB.heap.size, 4, none⟩ (.int .u32 x4)).heap[wB.heap.size]? = some (.cells #[.int .u32 x0, .int .u32 x1, .int .u32 x2, .int .u32 x3, .int .u32 x4] 70 (0, 0))) := setCells5 w6 wB.heap.size 70 _ _ _ _ _ _ _ _ _ _ H6.out
              have HG6 : Hid (Below wB.heap.size wB (((((w6.setCell ⟨wB.heap.size, 0, none⟩ (.int .u32 x0)).setCell ⟨wB.heap.size, 1, none⟩ (.int .u32 x1)).setCell ⟨wB.heap.size, 2, none⟩ (.int .u32 x2)).setCell ⟨wB.heap.size, 3, none⟩ (.int .u32 x3)).setCell ⟨wB.heap.size, 4, none⟩ (.int .u32 x4))) := below_setCells (Nat.le_refl _) [.int .u32 x0, .int .u32 x1, .int .u32 x2, .int .u32 x3, .int .u32 x4] 0 _ _ (HBr.out.trans (Below.mono (show Below wr.heap.size wr w6 from ⟨hb6.out.os, hb6.out.tape, hb6.out.output, hb6.out.size, hb6.out.block⟩) (by omega)))
              have hz6 : wB.heap.size < w6.heap.size := Nat.lt_of_lt_of_le hzr hb6.out.size
              clear y0 y1 y2 y3 y4 g0 g1 g2 g3 g4 q0 q1 q2 q3 q4 hsl hwp hblk' hat
              go_wp2
              go_roundg (NB - (k + 1))
              case measure => omega
              case rel => exact ⟨k + 1, ⟨x0, x1, x2, x3, x4⟩, by omega, rfl, by have := HP.out; go_num, hid (by rw [HS1.out, HSt.out, HCK.out]; rfl), HF6, HG6, by simpa [World.setCell] using hz6⟩
            · obtain rfl : k = NB := by omega
              have hpT : p = T := by have := HP.out; have := hNB.out; omega
              subst hpT
              obtain ⟨s5, HS5⟩ : ∃ s5 : S5, Hid (s5 = ⟨a0, b0, c0, d0, e0⟩) := ⟨_, rfl⟩
              have HSH : Hid (sha zs = outAt s5 20) := hid (by unfold sha; rw [HS5.out, HSt.out, ← HN.out, ← HE.out, hTl.out, ← HNB.out])
              have hok : S5.ok s5 := by rw [HS5.out, HSt.out]; exact ab_ok _ _
              obtain ⟨sl, HSL⟩ : ∃ sl, Hid (sl = s5.l) := ⟨_, rfl⟩
              have hsll : sl.length = 5 := by rw [HSL.out]; rfl
              have hslw : IsW sl := by rw [HSL.out]; exact l_isW' s5 hok
              have HH : Hid (wr.heap[wB.heap.size]? = some (.cells (row .u32 sl).toArray 70 (0, 0))) := hid (by rw [HSL.out, HS5.out]; exact HR.out)
              have HRr : Hid (wr.heap[w.heap.size]? = some (.cells (row .u8 z20).toArray 23 (0, 0))) := (HBr.out.block _ (by omega)).trans HRB.out
              have HBw : Hid (Below w.heap.size w wr) := HBB.out.trans (HBr.out.mono (by omega))
              obtain ⟨wC, rfl⟩ : ∃ wC, wC = wr := ⟨_, rfl⟩
              have HI3 : Hid ((wC.alloc (.cells zr 23)).heap[wC.heap.size]? = some (.cells (row .u8 (outAt s5 (4 * 0))).toArray 23 (0, 0))) := hid (by rw [outAt_zero, ← HZ.out]; exact heap_alloc_new wC _)
              have HR4 : Hid ((wC.alloc (.cells zr 23)).heap[w.heap.size]? = some (.cells (row .u8 z20).toArray 23 (0, 0))) := hid (by rw [Below.heap_alloc _ _ _ (by omega)]; exact HRr.out)
              have HH4 : Hid ((wC.alloc (.cells zr 23)).heap[wB.heap.size]? = some (.cells (row .u32 sl).toArray 70 (0, 0))) := hid (by rw [Below.heap_alloc _ _ _ (by omega)]; exact HH.out)
              have HB4 : Hid (Below w.heap.size w (wC.alloc (.cells zr 23))) := HBw.out.alloc (by omega) _
              have hwC : w.heap.size < wB.heap.size := by omega
              clear HR HRr HH HBw
              go_wp2
              go_loopg [9] 5 (fun g i wr => ∃ j : Nat, j ≤ 5 ∧ g = 5 - j ∧ i = .int .i64 j ∧ Hid (wr.heap[wC.heap.size]? = some (.cells (row .u8 (outAt s5 (4 * j))).toArray 23 (0, 0))) ∧ Hid (wr.heap[w.heap.size]? = some (.cells (row .u8 z20).toArray 23 (0, 0))) ∧ Hid (wr.heap[wB.heap.size]? = some (.cells (row .u32 sl).toArray 70 (0, 0))) ∧ Hid (Below w.heap.size w wr))
              case atStart => exact ⟨0, by omega, rfl, rfl, HI3, HR4, HH4, HB4⟩
              case round =>
                clear HI3 HR4 HH4 HB4
                obtain ⟨j, hj, hg2, rfl, HI, HR, HH, HBx⟩ := hrel
                by_cases hlt2 : j < 5
                · obtain ⟨x, HX⟩ : ∃ x, Hid (x = sl.getD j 0) := ⟨_, rfl⟩
                  have hx : U x := by rw [HX.out]; exact hslw.at j
                  obtain ⟨hx1, hx2⟩ := hx
                  obtain ⟨m, HM⟩ : ∃ m, Hid (m = 4 * j) := ⟨_, rfl⟩
                  have hm : (4 : Int) * j = (m : Int) := by have := HM.out; omega
                  have hm16 : m ≤ 16 := by have := HM.out; omega
                  rw [← HM.out] at HI
                  go_wp2
                  go_loopg [10] 4 (fun g i wr => ∃ c : Nat, c ≤ 4 ∧ g = 4 - c ∧ i = .int .i64 c ∧ Hid (wr.heap[wC.heap.size]? = some (.cells (row .u8 (outAt s5 (m + c))).toArray 23 (0, 0))) ∧ Hid (wr.heap[w.heap.size]? = some (.cells (row .u8 z20).toArray 23 (0, 0))) ∧ Hid (wr.heap[wB.heap.size]? = some (.cells (row .u32 sl).toArray 70 (0, 0))) ∧ Hid (Below w.heap.size w wr))
                  case atStart => exact ⟨0, by omega, rfl, rfl, HI, HR, HH, HBx⟩
                  case round =>
                    clear HI HR HH HBx
                    obtain ⟨c, hc4, hg3, rfl, HI, HR, HH, HBx⟩ := hrel
                    by_cases hlt3 : c < 4
                    · have cx : wr.cell? ⟨wB.heap.size, j, none⟩ = some (.int .u32 x) := by rw [HX.out]; exact row_cell HH.out j (by omega)
                      have d0 := row_cell HI.out (m + c) (by rw [outAt_len]; omega)
                      have f0 := frozen_of_row wr wC.heap.size (m + c) _ 23 HI.out
                      obtain ⟨sh, HSHF⟩ : ∃ sh : Nat, Hid (sh = 24 - 8 * c) := ⟨_, rfl⟩
                      have hsh : (24 : Int) - 8 * c = (sh : Int) := by have := HSHF.out; omega
                      have hsh2 : sh ≤ 24 := by have := HSHF.out; omega
                      have bi : (j : Int) < 5 := by omega
                      go_wp2
                      go_roundg (4 - (c + 1))
                      case measure => omega
                      case rel =>
                        refine ⟨c + 1, by omega, rfl, by go_num, hid ?_, hid ?_, hid ?_, HBx.out.setCell (by show w.heap.size ≤ wC.heap.size; omega) _⟩
                        · rw [heap_setCell_same wr _ _ _ _ _ HI.out, row_set, ← Nat.add_assoc, outAt_step s5 (m + c) (by omega), show (m + c) / 4 = j from by have := HM.out; omega, show (m + c) % 4 = c from by have := HM.out; omega, ← HSHF.out, ← HSL.out, ← HX.out]
                        · rw [Below.heap_setCell wr ⟨wC.heap.size, m + c, none⟩ _ w.heap.size (by show w.heap.size ≠ wC.heap.size; omega)]; exact HR.out
                        · rw [Below.heap_setCell wr ⟨wC.heap.size, m + c, none⟩ _ wB.heap.size (by show wB.heap.size ≠ wC.heap.size; omega)]; exact HH.out
                    · obtain rfl : c = 4 := by omega
                      go_wp2
                      go_roundg (5 - (j + 1))
                      case measure => omega
                      case rel => exact ⟨j + 1, by omega, rfl, by go_num, hid (by rw [show 4 * (j + 1) = m + 4 from by have := HM.out; omega]; exact HI.out), HR, HH, HBx⟩
                · obtain rfl : j = 5 := by omega
                  obtain ⟨fr, HFR⟩ : ∃ fr, Hid (fr = outAt s5 (4 * 5)) := ⟨_, rfl⟩
                  rw [← HFR.out] at HI
                  have hfl : fr.length = 20 := by rw [HFR.out]; exact outAt_len _ _
                  have HEf : Hid (fr = sha zs) := hid (by rw [HFR.out, HSH.out])
                  have hi24 : (Tryz.prog.info? 23).map (·.size) = some (row .u8 fr).length := by rw [row_len, hfl]; exact Tryz.size23
                  have T1 : Hid (wr.there w.heap.size 0 (row .u8 fr).toArray.size) := hid (by rw [row_size, hfl]; exact there_row HR.out rfl)
                  have T2 : Hid ((Tryz.prog.info? 23).map (·.size) = some (row .u8 fr).toArray.size) := hid (by rw [row_size, hfl]; exact Tryz.size23)
                  have T3 : Hid ((row .u8 fr).toArray.all (·.oneCell') = true) := all_oneCell_toArray (row_one _ _)
                  have T4 : Hid (wr.there w.heap.size 0 (row .u8 fr).length) := hid (by rw [row_len, hfl]; exact there_row HR.out rfl)
                  go_wp2_with (first | refine wpList_load_mid rfl 23 _ rfl wC.heap.size 0 rfl (row .u8 fr) _ (range_row HI.out) Tryz.underlying23 rfl hi24 ?_ | refine wpList_store_mid rfl 23 _ _ rfl w.heap.size 0 (row .u8 fr).toArray rfl rfl T1.out T2.out T3.out ?_)
                  exact bodyPost_ret (v := .agg (row .u8 fr).toArray) (results_mid Tryz.results12 _ _ w.heap.size _ _ rfl (World.rangeAt_setCells_same wr w.heap.size 0 _ T4.out) Tryz.underlying23 rfl hi24) rfl ⟨by rw [HEf.out], below_setCells (Nat.le_refl _) _ _ _ _ HBx.out⟩
end Go.Proofs.YtikmbjfambjmaaaGreatDoor
