/- THE LAW 'DeltaMoved': its row, its card. -/
import Derived.Test.YtblegkefeiefjaaDoorApplies
import Derived.Test.YtblegkefeiefjaaDoorMvB
import Derived.Test.YtblegkefeiefjaaDoorMvC
import Derived.Deep.Slices
import Derived.Deep.Strs
namespace Go.Proofs.YtblegkefeiefjaaDoor.Moved
open Go.ChangeShapes Go.WideShapes Go.ChangeAt Go.RowKit Go.Deep Plain
open Go.Proofs.YtblegkefeiefjaaDoor.Applies (own laidOut One open_one layIn cell_lt)
set_option linter.unusedVariables false
theorem cells41 : Tryd.prog.cellsOf 41 = 3 := by kernel_rfl
theorem cells3 : Tryd.prog.cellsOf 3 = 1 := by kernel_rfl
theorem cells22 : Tryd.prog.cellsOf 22 = 1 := by kernel_rfl
def wit : Array Value := #[.slice none 0 0, .slice none 0 0, .slice none 0 0]
set_option maxRecDepth 100000 in
/-- The pieces, opened. -/
theorem open_pieces {H : Type} {enc : TypeId × Value → H} {W : World} {m : Nat} {v : Value} {y : DataW H × List MemPlace} (h : DataW.trod enc Tryd.prog W 0 (fun _ => true) true m 38 [v] = some y) :
    ∃ (pa : Option Addr) (N pc : Nat), v = .slice pa N pc ∧ Pcs W pa N := by
  rcases open_slice Tryd.underlying38 h with ⟨h0, _⟩ | ⟨a, len, cap, m, n, D, Pl, hc, hb, hl, hm, hmm, rfl, hx⟩
  · simp only [List.cons.injEq, and_true] at h0
    subst h0
    exact ⟨none, 0, 0, rfl, fun i hi => by omega⟩
  · simp only [List.cons.injEq, and_true] at hc
    subst hc
    simp only [if_true] at hmm
    refine ⟨some a, len, cap, rfl, fun i hi => ?_⟩
    obtain ⟨cs', h1, h2⟩ := hx i (by omega)
    rw [cells41] at h1
    obtain ⟨_, hlen, hcell⟩ := World.cells?_some h1
    obtain ⟨y0, y1, y2, k, hxy, _, u0, u1, u2⟩ := trod_struct3 Tryd.underlying41 h2
    match cs', hlen with
    | [v0, v1, v2], _ =>
      simp only [cells3, cells22, List.drop, List.take] at u0 u1 u2
      obtain ⟨F, e0, _⟩ := DataW.trod_int Tryd.underlying3 u0
      obtain ⟨L, e1, _⟩ := DataW.trod_int Tryd.underlying3 u1
      obtain ⟨t, ⟨o1, o2, o3⟩, _⟩ := open_one u2
      simp only [List.cons.injEq, and_true] at e0 e1
      subst e0; subst e1; subst o1
      have c0 := hcell 0 (by omega)
      have c1 := hcell 1 (by omega)
      have c2 := hcell 2 (by omega)
      obtain ⟨b, off, spot⟩ := a
      have hspot : spot = none := by
        obtain ⟨cs0, g1, _⟩ := hx 0 (by omega)
        rw [cells41] at g1
        obtain ⟨_, gl, gc⟩ := World.cells?_some g1
        have g0 := gc 0 (by omega)
        rw [List.getElem?_eq_getElem (by omega)] at g0
        have := World.cell?_spot g0
        simpa [Addr.add] using this
      subst hspot
      rw [addr_add, addr_add] at c0 c1 c2
      have cb := cell_lt c0
      exact ⟨b, off, F, L, t.1, t.2.1, t.2.2, rfl, cb, by simpa using c0, by simpa using c1, by simpa using c2, o2, o3⟩
set_option maxRecDepth 100000 in
theorem contract (H : Type) (enc : TypeId × Value → H) (W : World) (base : Nat) (args : Array Value) (ds gs : List (DataW H)) (before : List MemPlace)
    (hval : ∀ (j : Nat) t v, Tryd.f5.params[j]? = some t → args[j]? = some v → Value.okWide Tryd.prog W .any base t v)
    (hW : DataW.Whole enc Tryd.prog Tryd.f5.params.toList Rows.deltaMovedSpec.vars false W args.toList ds gs before)
    (hsz : (DataW.weightsEach Tryd.prog (Tryd.f5.params.toList ++ (OpenSpec.ofChange Rows.deltaMovedSpec).bare.plain.varTypes Tryd.prog) (ds ++ gs)).all (· ≤ reachBytes) = true)
    (hL : laidMetH Tryd.prog Rows.deltaMovedRow.laid W) :
    Calls Tryd.prog 5 args W fun e W' => ∃ v, e = .returned v ∧ Rows.deltaMovedSpec.post enc Tryd.prog Tryd.f5 false true false false W args v W' := by
  have hW' := hW
  obtain ⟨p, q, hA0, hV, rfl, hfz, hnd⟩ := hW
  have hA : DataW.TrodAll enc Tryd.prog W 0 (fun _ => true) true Tryd.f5.params.toList args.toList ds p := hA0
  rw [Tryd.params5] at hA hval hsz
  obtain ⟨v0, vs0, d0, ds0, p0, q0, hargs, rfl, rfl, h0, r0⟩ := trodAll_cons hA
  obtain ⟨v1, vs1, d1, ds1, p1, q1, rfl, rfl, rfl, h1, r1⟩ := trodAll_cons r0
  obtain ⟨v2, vs2, d2, ds2, p2, q2, rfl, rfl, rfl, h2, r2⟩ := trodAll_cons r1
  obtain ⟨rfl, rfl, rfl⟩ := trodAll_nil r2
  obtain rfl : args = #[v0, v1, v2] := by cases args; simp_all
  obtain ⟨rfl, rfl⟩ := trodVars_none hV
  have k0 := h0
  have k1 := h1
  have k2 := h2
  have lt0 : ∀ x ∈ p0, x.block < W.heap.size := by obtain ⟨m, hm⟩ := k0; exact DataW.trod_lt m _ _ _ hm
  have lt1 : ∀ x ∈ p1, x.block < W.heap.size := by obtain ⟨m, hm⟩ := k1; exact DataW.trod_lt m _ _ _ hm
  have lt2 : ∀ x ∈ p2, x.block < W.heap.size := by obtain ⟨m, hm⟩ := k2; exact DataW.trod_lt m _ _ _ hm
  obtain ⟨a0, len0, cap0, rfl⟩ := okWide_slice Tryd.underlying22 (hval 0 22 v0 rfl rfl)
  obtain ⟨a1, len1, cap1, rfl⟩ := okWide_slice Tryd.underlying22 (hval 1 22 v1 rfl rfl)
  obtain ⟨t0, o0, _⟩ : ∃ t, One W (.slice a0 len0 cap0) t ∧ (t.2.2.length = 0 ∨ ∃ n, n ∈ d0.weights Tryd.prog 22 ∧ t.2.2.length ≤ n) := by
    obtain ⟨fuel, hf⟩ := h0
    exact open_one (y := (d0, p0)) hf
  obtain ⟨t1, o1, _⟩ : ∃ t, One W (.slice a1 len1 cap1) t ∧ (t.2.2.length = 0 ∨ ∃ n, n ∈ d1.weights Tryd.prog 22 ∧ t.2.2.length ≤ n) := by
    obtain ⟨fuel, hf⟩ := h1
    exact open_one (y := (d1, p1)) hf
  obtain ⟨pa, N, pc, rfl⟩ := okWide_slice Tryd.underlying38 (hval 2 38 v2 rfl rfl)
  have hP : Pcs W pa N := by
    obtain ⟨fuel, hf⟩ := h2
    obtain ⟨pa', N', pc', e, hP'⟩ := open_pieces (y := (d2, p2)) hf
    cases e
    exact hP'
  clear hA0
  obtain ⟨e0, z0, c0⟩ := o0
  obtain ⟨e1, z1, c1⟩ := o1
  have walk : Calls Tryd.prog 5 #[.slice a0 len0 cap0, .slice a1 len1 cap1, .slice pa N pc] W fun e w' => e = .returned (.bool true) ∧ Below W.heap.size W w' := by
    rw [e0, e1]
    by_cases hl : t0.2.2.length ≤ 20000 ∧ 32 ≤ t0.2.2.length ∧ t1.2.2.length ≤ 20000 ∧ N ≤ 1000
    · exact walkM_main t0.1 t1.1 pa t0.2.1 t1.2.1 pc N t0.2.2 t1.2.2 W hl.1 hl.2.1 hl.2.2.1 hl.2.2.2 z0 z1 c0 c1 hP
    · exact walkM_else _ _ _ _ _ _ _ _ _ W (by omega)
  refine walk.mono fun e W' ⟨he, bel⟩ => ?_
  subst he
  exact ⟨_, rfl, _, _, _, [], _, [], hW', trodAll_mk1 (shut_bool Tryd.underlying4 _), (trodAll_cons_mk (Below.trod laidOut (by kernel_rfl) (of_decide_eq_true (by kernel_rfl)) k0 bel lt0) (trodAll_cons_mk (Below.trod laidOut (by kernel_rfl) (of_decide_eq_true (by kernel_rfl)) k1 bel lt1) (trodAll_cons_mk (Below.trod laidOut (by kernel_rfl) (of_decide_eq_true (by kernel_rfl)) k2 bel lt2) trodAll_mk0))), rfl, bel.frame _, fun h => by cases h⟩

theorem laid_met (os : Os) : laidMetH Tryd.prog Rows.deltaMovedRow.laid ((layIn (World.holding Tryd.prog os ⟨#[], #[], []⟩)).forCall (fun _ _ => 0) ⟨#[], wit, []⟩).memory :=
  laidMetH_of_parts (laidMet_nil _ _) (by kernel_rfl)
theorem reads (os : Os) {H : Type} (enc : TypeId × Value → H) : ∃ ds places, DataW.whole enc Tryd.prog ((layIn (World.holding Tryd.prog os ⟨#[], #[], []⟩)).forCall (fun _ _ => 0) ⟨#[], wit, []⟩).memory Tryd.f5.params.toList Rows.deltaMovedSpec.vars false wit.toList 8 = some (ds, [], places) :=
  ⟨[.nil, .nil, .nil], [], by kernel_rfl⟩

set_option maxRecDepth 100000 in
theorem lifted (os : Os) (started : os.Started) (H : Type) (enc : TypeId × Value → H) (F : Stop.Interp) :
    ReturnsInHanded {} Tryd.checked os 5 .any ((OpenSpec.ofChange Rows.deltaMovedSpec).preRow enc Tryd.prog Tryd.f5 Rows.deltaMovedRow.domain false Rows.deltaMovedRow.laid) (((OpenSpec.ofChange Rows.deltaMovedSpec).at F).post enc Tryd.prog Tryd.f5 false true false false) := by
  obtain ⟨ds, places, hx⟩ := reads os enc
  refine returnsInHanded_of_row (C := Tryd.checked) (s := OpenSpec.ofChange Rows.deltaMovedSpec) own started (by kernel_rfl) Tryd.func5
    (witness_row_at (enc := enc) (C := Tryd.checked) false (layIn (World.holding Tryd.prog os ⟨#[], #[], []⟩)) wit rfl (by kernel_rfl) (by kernel_rfl) (by kernel_rfl)
      (OpenSpec.preRow_of_cond 8 hx (by kernel_rfl) (fun k hk => by cases hk) (by kernel_rfl) (laid_met os))) ?_
  intro W base args ds gs before hval hW _ _ hsz hL _ _
  exact contract H enc W base args ds gs before hval hW hsz hL

theorem said : Rows.DeltaMovedSaid :=
  OpenClaim.holds_of_cond 5 Tryd.f5 rfl rfl rfl rfl rfl rfl rfl ⟨rfl, rfl, rfl, rfl, rfl⟩ rfl rfl rfl rfl rfl (by kernel_rfl) Tryd.func5 (by kernel_rfl)
    (of_decide_eq_true (by kernel_rfl)) (by unfold Func.isWrapper; first | (rw [if_pos (by decide +kernel)]; kernel_rfl) | (rw [if_neg (by decide +kernel)]; exact ⟨rfl, rfl⟩))
    (fun os started H enc _ F => by rw [OpenClaim.pre_eq_preRow]; exact lifted os started H enc F)

theorem plain (f : FuncId) (fn : Func) (hf : Tryd.pinned.checked.prog.funcNamed "gitlike/gitlikelaw4.DeltaMoved" = some f) (hfn : Tryd.pinned.checked.prog.funcs[f]? = some fn) :
    true = Tryd.pinned.checked.prog.looks [] ∧ ∀ (j : Nat) t, fn.params[j]? = some t → Tryd.pinned.checked.prog.wantsStandIn t = false := by
  obtain rfl : f = 5 := Option.some.inj ((show Tryd.prog.funcNamed "gitlike/gitlikelaw4.DeltaMoved" = some 5 by kernel_rfl).symm.trans hf) |>.symm
  obtain rfl : fn = Tryd.f5 := (Option.some.inj (Tryd.func5.symm.trans hfn)).symm
  refine ⟨by kernel_rfl, fun j t ht => ?_⟩
  rw [Tryd.params5] at ht
  have hm : t = 22 ∨ t = 38 := by simpa using Array.mem_of_getElem? ht
  rcases hm with rfl | rfl
  · exact (show Tryd.prog.wantsStandIn 22 = false by kernel_rfl)
  · exact (show Tryd.prog.wantsStandIn 38 = false by kernel_rfl)

end Go.Proofs.YtblegkefeiefjaaDoor.Moved
namespace Go.Proofs.YtblegkefeiefjaaDoor
/-- THE CARD -/
theorem deltaMoved_card : Rows.DeltaMovedCardSaid :=
  Claim7.holds_tied_plain_at .later [] _ _ _ _ Moved.said (fun _ h => by cases h) (by kernel_rfl) (fun _ h => by cases h) deltaMoved_row_tie rfl ⟨rfl, rfl⟩ (by kernel_rfl) rfl Moved.plain (by kernel_rfl)
#print axioms deltaMoved_card
end Go.Proofs.YtblegkefeiefjaaDoor
