/- THE LAW 'GraphBases': its row, its card. -/
import Derived.Test.YtjgjeedablgmeaaDoorGbA
import Derived.Test.YtjgjeedablgmeaaDoorGtD
import Derived.Test.YtjgjeedablgmeaaDoorOpn
namespace Go.Proofs.YtjgjeedablgmeaaDoor
theorem s51 : S51 := fun g ns S w hS hl hf => by
  haveI : Inhabited In := ⟨⟨z20, by decide, fun n hn => by rw [List.eq_of_mem_replicate hn]; decide⟩⟩
  exact idsorted_any g ns S w hS hl hf
end Go.Proofs.YtjgjeedablgmeaaDoor
namespace Go.Proofs.YtjgjeedablgmeaaDoor.Opn
open Go.ChangeShapes Go.WideShapes Go.ChangeAt Go.RowKit
set_option maxRecDepth 20000 in
/-- An id that is handed in. -/
theorem open_arg {H : Type} {enc : TypeId × Value → H} {W : World} {base : Nat} {v : Value} {d : DataW H} {ps : List MemPlace} (hv : Value.okWide Tryd.prog W .any base 42 v) (h : DataW.Trod enc Tryd.prog W 0 (fun _ => true) true 42 v d ps) : ∃ y, v = idV y ∧ IdW y := by
  unfold Value.okWide at hv
  rw [Tryd.underlying42] at hv
  obtain ⟨cs, rfl, _, _⟩ := hv
  obtain ⟨m, hm⟩ := h
  obtain ⟨zs, e1, e2, e3⟩ := open_id (y := (d, ps)) hm
  refine ⟨zs, ?_, e2, e3⟩
  have e4 : cs.toList = row .u8 zs := e1
  unfold idV
  congr 1
  exact Array.toList_inj.1 e4
end Go.Proofs.YtjgjeedablgmeaaDoor.Opn
namespace Go.Proofs.YtjgjeedablgmeaaDoor.Bases
open Go.ChangeShapes Go.WideShapes Go.ChangeAt Go.RowKit
open Go.Proofs.YtjgjeedablgmeaaDoor.Opn (own laidOut et rt oneRow tsize)
set_option linter.unusedVariables false
set_option linter.unusedSectionVars false
theorem params5 : Tryd.f5.params = #[22, 42, 42, 32] := by kernel_rfl
theorem handle_of_laid {W : World} (h : laidMetH Tryd.prog Rows.graphBasesRow.laid W) : W.cell? ⟨0, 0, none⟩ = some (.iface 112 (.agg #[.pointer (some ⟨2, 25, none⟩)])) := by
  have h' : laidMet Tryd.prog [] W ∧ handlesMet Tryd.prog Rows.graphBasesRow.laid W := h
  obtain ⟨name, u, ty, e1, e2, e3, e4, e5⟩ := h'.2 _ (List.mem_singleton.2 rfl)
  have en : name = [101, 114, 114, 111, 114] := (Option.some.inj e1).symm
  subst en
  obtain rfl := Option.some.inj (rt.symm.trans e2)
  have hm : ty ∈ (List.range 194).filter fun t => Tryd.prog.rowNamed t [101, 114, 114, 111, 114] := List.mem_filter.2 ⟨List.mem_range.2 (by rw [← tsize]; exact e3), e4⟩
  rw [oneRow] at hm
  obtain rfl := List.mem_singleton.1 hm
  have hh : typeHandle Tryd.prog 25 = .pointer (some ⟨2, 25, none⟩) := by kernel_rfl
  rw [hh] at e5
  simpa using World.var?_cell et e5 0

set_option maxRecDepth 100000 in
theorem contract (H : Type) (enc : TypeId × Value → H) (W : World) (base : Nat) (args : Array Value) (ds gs : List (DataW H)) (before : List MemPlace)
    (hval : ∀ (j : Nat) t v, Tryd.f5.params[j]? = some t → args[j]? = some v → Value.okWide Tryd.prog W .any base t v)
    (hW : DataW.Whole enc Tryd.prog Tryd.f5.params.toList Rows.graphBasesSpec.vars false W args.toList ds gs before)
    (hL : laidMetH Tryd.prog Rows.graphBasesRow.laid W) :
    Calls Tryd.prog 5 args W fun e W' => ∃ v, e = .returned v ∧ Rows.graphBasesSpec.post enc Tryd.prog Tryd.f5 false true false false W args v W' := by
  have hW' := hW
  obtain ⟨p, q, hA0, hV, rfl, hfz, hnd⟩ := hW
  have hA : DataW.TrodAll enc Tryd.prog W 0 (fun _ => true) true Tryd.f5.params.toList args.toList ds p := hA0
  rw [params5] at hA hval
  obtain ⟨v0, vs0, d0, ds0, p0, q0, hargs, rfl, rfl, h0, r0⟩ := trodAll_cons hA
  obtain ⟨v1, vs1, d1, ds1, p1, q1, rfl, rfl, rfl, h1, r1⟩ := trodAll_cons r0
  obtain ⟨v2, vs2, d2, ds2, p2, q2, rfl, rfl, rfl, h2, r2⟩ := trodAll_cons r1
  obtain ⟨v3, vs3, d3, ds3, p3, q3, rfl, rfl, rfl, h3, r3⟩ := trodAll_cons r2
  obtain ⟨rfl, rfl, rfl⟩ := trodAll_nil r3
  obtain rfl : args = #[v0, v1, v2, v3] := by cases args; simp_all
  obtain ⟨rfl, rfl⟩ := trodVars_none hV
  have k0 := h0
  have k1 := h1
  have k2 := h2
  have k3 := h3
  have lt0 : ∀ x ∈ p0, x.block < W.heap.size := by obtain ⟨m, hm⟩ := k0; exact DataW.trod_lt m _ _ _ hm
  have lt1 : ∀ x ∈ p1, x.block < W.heap.size := by obtain ⟨m, hm⟩ := k1; exact DataW.trod_lt m _ _ _ hm
  have lt2 : ∀ x ∈ p2, x.block < W.heap.size := by obtain ⟨m, hm⟩ := k2; exact DataW.trod_lt m _ _ _ hm
  have lt3 : ∀ x ∈ p3, x.block < W.heap.size := by obtain ⟨m, hm⟩ := k3; exact DataW.trod_lt m _ _ _ hm
  obtain ⟨a3, len3, cap3, rfl⟩ := okWide_slice Tryd.underlying32 (hval 3 32 v3 rfl rfl)
  obtain ⟨fa, fc, F, ef, hpf, hwF, _⟩ : ∃ (pa : Option Addr) (pc : Nat) (ids : List (List Int)), Value.slice a3 len3 cap3 = .slice pa ids.length pc ∧ Pa W pa pc ids ∧ (∀ x ∈ ids, IdW x) ∧ (ids.length = 0 ∨ ∃ n, n ∈ d3.weights Tryd.prog 32 ∧ ids.length ≤ n) := by
    obtain ⟨fuel, hf⟩ := h3
    exact Opn.open_ids (y := (d3, p3)) hf
  obtain ⟨a0, len0, cap0, rfl⟩ := okWide_slice Tryd.underlying22 (hval 0 22 v0 rfl rfl)
  obtain ⟨pa, pc, es, ev, hpe, hwf⟩ : ∃ (pa : Option Addr) (pc : Nat) (es : List Nd), Value.slice a0 len0 cap0 = .slice pa es.length pc ∧ Pn W pa pc es ∧ ∀ x ∈ es, NdW W x := by
    obtain ⟨fuel, hf⟩ := h0
    exact Opn.open_nds (y := (d0, p0)) hf
  obtain ⟨y1, e1, w1⟩ := Opn.open_arg (hval 1 42 v1 rfl rfl) h1
  obtain ⟨y2, e2, w2⟩ := Opn.open_arg (hval 2 42 v2 rfl rfl) h2
  clear hA0
  have hg := handle_of_laid hL
  have walk : Calls Tryd.prog 5 #[.slice a0 len0 cap0, v1, v2, .slice a3 len3 cap3] W fun e w' => e = .returned (.bool true) ∧ Below W.heap.size W w' := by
    rw [ev, e1, e2, ef]
    exact walkB s51 pa pc es y1 y2 fa fc F W hpe hwf w1 w2 hpf hwF hg
  refine walk.mono fun e W' ⟨he, bel⟩ => ?_
  subst he
  exact ⟨_, rfl, _, _, _, [], _, [], hW', trodAll_mk1 (shut_bool Tryd.underlying4 _), (trodAll_cons_mk (Below.trod Opn.laidOut (by kernel_rfl) (of_decide_eq_true (by kernel_rfl)) k0 bel lt0) (trodAll_cons_mk (Below.trod Opn.laidOut (by kernel_rfl) (of_decide_eq_true (by kernel_rfl)) k1 bel lt1) (trodAll_cons_mk (Below.trod Opn.laidOut (by kernel_rfl) (of_decide_eq_true (by kernel_rfl)) k2 bel lt2) (trodAll_cons_mk (Below.trod Opn.laidOut (by kernel_rfl) (of_decide_eq_true (by kernel_rfl)) k3 bel lt3) trodAll_mk0)))), rfl, bel.frame _, fun h => by cases h⟩
/-- A WORLD FOR THE WITNESS: the variable's cell holds what its initialiser lays. -/
def layIn (w : World) : World :=
  { w with heap := w.heap.modify 0 fun
      | .cells _ t frozen => .cells #[.iface 112 (.agg #[.pointer (some ⟨2, 25, none⟩)])] t frozen
      | o => o }
def wit : Array Value := #[.slice none 0 0, .agg (row .u8 z20).toArray, .agg (row .u8 z20).toArray, .slice none 0 0]
theorem laid_met (os : Os) : laidMetH Tryd.prog Rows.graphBasesRow.laid ((layIn (World.holding Tryd.prog os ⟨#[], #[], []⟩)).forCall (fun _ _ => 0) ⟨#[], wit, []⟩).memory :=
  laidMetH_of_parts (laidMet_nil _ _) (by kernel_rfl)
theorem reads (os : Os) {H : Type} (enc : TypeId × Value → H) : ∃ ds places, DataW.whole enc Tryd.prog ((layIn (World.holding Tryd.prog os ⟨#[], #[], []⟩)).forCall (fun _ _ => 0) ⟨#[], wit, []⟩).memory Tryd.f5.params.toList Rows.graphBasesSpec.vars false wit.toList 8 = some (ds, [], places) :=
  ⟨[.nil, .agg (List.replicate 20 (.lit (.int .u8 0))), .agg (List.replicate 20 (.lit (.int .u8 0))), .nil], [], by kernel_rfl⟩

set_option maxRecDepth 100000 in
theorem lifted (os : Os) (started : os.Started) (H : Type) (enc : TypeId × Value → H) (F : Stop.Interp) :
    ReturnsInHanded {} Tryd.checked os 5 .any ((OpenSpec.ofChange Rows.graphBasesSpec).preRow enc Tryd.prog Tryd.f5 Rows.graphBasesRow.domain false Rows.graphBasesRow.laid) (((OpenSpec.ofChange Rows.graphBasesSpec).at F).post enc Tryd.prog Tryd.f5 false true false false) := by
  obtain ⟨ds, places, hx⟩ := reads os enc
  refine returnsInHanded_of_row (C := Tryd.checked) (s := OpenSpec.ofChange Rows.graphBasesSpec) own started (by kernel_rfl) Tryd.func5
    (witness_row_at (enc := enc) (C := Tryd.checked) false (layIn (World.holding Tryd.prog os ⟨#[], #[], []⟩)) wit rfl (by kernel_rfl) (by kernel_rfl) (by kernel_rfl)
      (OpenSpec.preRow_of_cond 8 hx (by kernel_rfl) (fun k hk => by cases hk) (by kernel_rfl) (laid_met os))) ?_
  intro W base args ds gs before hval hW _ _ _ hL _ _
  exact contract H enc W base args ds gs before hval hW hL

theorem said : Rows.GraphBasesSaid :=
  OpenClaim.holds_of_cond 5 Tryd.f5 rfl rfl rfl rfl rfl rfl rfl ⟨rfl, rfl, rfl, rfl, rfl⟩ rfl rfl rfl rfl rfl (by kernel_rfl) Tryd.func5 (by kernel_rfl)
    (of_decide_eq_true (by kernel_rfl)) (by unfold Func.isWrapper; first | (rw [if_pos (by decide +kernel)]; kernel_rfl) | (rw [if_neg (by decide +kernel)]; exact ⟨rfl, rfl⟩))
    (fun os started H enc _ F => by rw [OpenClaim.pre_eq_preRow]; exact lifted os started H enc F)

theorem plain (f : FuncId) (fn : Func) (hf : Tryd.pinned.checked.prog.funcNamed "gitlike/gitlikelaw9.GraphBases" = some f) (hfn : Tryd.pinned.checked.prog.funcs[f]? = some fn) :
    true = Tryd.pinned.checked.prog.looks [] ∧ ∀ (j : Nat) t, fn.params[j]? = some t → Tryd.pinned.checked.prog.wantsStandIn t = false := by
  obtain rfl : f = 5 := Option.some.inj ((show Tryd.prog.funcNamed "gitlike/gitlikelaw9.GraphBases" = some 5 by kernel_rfl).symm.trans hf) |>.symm
  obtain rfl : fn = Tryd.f5 := (Option.some.inj (Tryd.func5.symm.trans hfn)).symm
  refine ⟨by kernel_rfl, fun j t ht => ?_⟩
  rw [params5] at ht
  have hm : t = 22 ∨ t = 42 ∨ t = 32 := by
    have := Array.mem_of_getElem? ht
    simpa using this
  rcases hm with rfl | rfl | rfl
  · exact (show Tryd.prog.wantsStandIn 22 = false by kernel_rfl)
  · exact (show Tryd.prog.wantsStandIn 42 = false by kernel_rfl)
  · exact (show Tryd.prog.wantsStandIn 32 = false by kernel_rfl)

end Go.Proofs.YtjgjeedablgmeaaDoor.Bases
namespace Go.Proofs.YtjgjeedablgmeaaDoor
/-- THE CARD -/
theorem graphBases_card : Rows.GraphBasesCardSaid :=
  Claim7.holds_tied_plain_at .later [] _ _ _ _ Bases.said (fun _ h => by cases h) (by kernel_rfl) (fun _ h => by cases h) graphBases_row_tie rfl ⟨rfl, rfl⟩ (by kernel_rfl) rfl Bases.plain (by kernel_rfl)
#print axioms graphBases_card
end Go.Proofs.YtjgjeedablgmeaaDoor
