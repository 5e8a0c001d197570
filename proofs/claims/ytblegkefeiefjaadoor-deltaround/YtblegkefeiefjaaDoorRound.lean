/- THE LAW 'DeltaRound': its row, its card. -/
import Derived.Test.YtblegkefeiefjaaDoorApplies
import Derived.Test.YtblegkefeiefjaaDoorDrB
import Derived.Test.YtblegkefeiefjaaDoorDrC
namespace Go.Proofs.YtblegkefeiefjaaDoor.Round
open Go.ChangeShapes Go.WideShapes Go.ChangeAt Go.RowKit Plain
open Go.Proofs.YtblegkefeiefjaaDoor.Applies (own laidOut One open_one layIn wit)
set_option linter.unusedVariables false

set_option maxRecDepth 100000 in
theorem contract (H : Type) (enc : TypeId × Value → H) (W : World) (base : Nat) (args : Array Value) (ds gs : List (DataW H)) (before : List MemPlace)
    (hval : ∀ (j : Nat) t v, Tryd.f4.params[j]? = some t → args[j]? = some v → Value.okWide Tryd.prog W .any base t v)
    (hW : DataW.Whole enc Tryd.prog Tryd.f4.params.toList Rows.deltaRoundSpec.vars false W args.toList ds gs before)
    (hsz : (DataW.weightsEach Tryd.prog (Tryd.f4.params.toList ++ (OpenSpec.ofChange Rows.deltaRoundSpec).bare.plain.varTypes Tryd.prog) (ds ++ gs)).all (· ≤ reachBytes) = true)
    (hL : laidMetH Tryd.prog Rows.deltaRoundRow.laid W) :
    Calls Tryd.prog 4 args W fun e W' => ∃ v, e = .returned v ∧ Rows.deltaRoundSpec.post enc Tryd.prog Tryd.f4 false true false false W args v W' := by
  have hW' := hW
  obtain ⟨p, q, hA0, hV, rfl, hfz, hnd⟩ := hW
  have hA : DataW.TrodAll enc Tryd.prog W 0 (fun _ => true) true Tryd.f4.params.toList args.toList ds p := hA0
  rw [Tryd.params4] at hA hval hsz
  obtain ⟨v0, vs0, d0, ds0, p0, q0, hargs, rfl, rfl, h0, r0⟩ := trodAll_cons hA
  obtain ⟨v1, vs1, d1, ds1, p1, q1, rfl, rfl, rfl, h1, r1⟩ := trodAll_cons r0
  obtain ⟨rfl, rfl, rfl⟩ := trodAll_nil r1
  obtain rfl : args = #[v0, v1] := by cases args; simp_all
  obtain ⟨rfl, rfl⟩ := trodVars_none hV
  have k0 := h0
  have k1 := h1
  have lt0 : ∀ x ∈ p0, x.block < W.heap.size := by obtain ⟨m, hm⟩ := k0; exact DataW.trod_lt m _ _ _ hm
  have lt1 : ∀ x ∈ p1, x.block < W.heap.size := by obtain ⟨m, hm⟩ := k1; exact DataW.trod_lt m _ _ _ hm
  obtain ⟨a0, len0, cap0, rfl⟩ := okWide_slice Tryd.underlying22 (hval 0 22 v0 rfl rfl)
  obtain ⟨a1, len1, cap1, rfl⟩ := okWide_slice Tryd.underlying22 (hval 1 22 v1 rfl rfl)
  obtain ⟨t0, o0, b0⟩ : ∃ t, One W (.slice a0 len0 cap0) t ∧ (t.2.2.length = 0 ∨ ∃ n, n ∈ d0.weights Tryd.prog 22 ∧ t.2.2.length ≤ n) := by
    obtain ⟨fuel, hf⟩ := h0
    exact open_one (y := (d0, p0)) hf
  obtain ⟨t1, o1, b1⟩ : ∃ t, One W (.slice a1 len1 cap1) t ∧ (t.2.2.length = 0 ∨ ∃ n, n ∈ d1.weights Tryd.prog 22 ∧ t.2.2.length ≤ n) := by
    obtain ⟨fuel, hf⟩ := h1
    exact open_one (y := (d1, p1)) hf
  have hm : ∀ n, n ∈ d0.weights Tryd.prog 22 ∨ n ∈ d1.weights Tryd.prog 22 → n ≤ reachBytes := by
    intro n hn
    refine of_decide_eq_true (List.all_eq_true.1 hsz n ?_)
    show n ∈ DataW.weightsEach Tryd.prog ([22, 22] ++ _) ([d0, d1] ++ [])
    simp only [List.cons_append, List.nil_append, List.append_nil, DataW.weightsEach, List.mem_append]
    rcases hn with h | h
    · exact .inl h
    · exact .inr (.inl h)
  have m0 : t0.2.2.length ≤ 200000000000000 := by
    rcases b0 with h | ⟨n, h1, h2⟩
    · omega
    · have := hm n (.inl h1)
      unfold reachBytes at this
      omega
  have m1 : t1.2.2.length ≤ 200000000000000 := by
    rcases b1 with h | ⟨n, h1, h2⟩
    · omega
    · have := hm n (.inr h1)
      unfold reachBytes at this
      omega
  clear hA0 b0 b1 hm
  obtain ⟨e0, z0, c0⟩ := o0
  obtain ⟨e1, z1, c1⟩ := o1
  have walk : Calls Tryd.prog 4 #[.slice a0 len0 cap0, .slice a1 len1 cap1] W fun e w' => e = .returned (.bool true) ∧ Below W.heap.size W w' := by
    rw [e0, e1]
    by_cases hl : t0.2.2.length ≤ 100000 ∧ t1.2.2.length ≤ 100000
    · exact walkR_short t0.1 t1.1 t0.2.1 t1.2.1 t0.2.2 t1.2.2 W hl.1 hl.2 z0 z1 c0 c1
    · by_cases h3 : t0.2.2.length + t1.2.2.length ≤ 300000
      · exact walkR_long _ _ _ _ _ _ W (by omega) h3
      · exact walkR_far _ _ _ _ _ _ W (by omega) m0 m1
  refine walk.mono fun e W' ⟨he, bel⟩ => ?_
  subst he
  exact ⟨_, rfl, _, _, _, [], _, [], hW', trodAll_mk1 (shut_bool Tryd.underlying4 _), (trodAll_cons_mk (Below.trod laidOut (by kernel_rfl) (of_decide_eq_true (by kernel_rfl)) k0 bel lt0) (trodAll_cons_mk (Below.trod laidOut (by kernel_rfl) (of_decide_eq_true (by kernel_rfl)) k1 bel lt1) trodAll_mk0)), rfl, bel.frame _, fun h => by cases h⟩

theorem laid_met (os : Os) : laidMetH Tryd.prog Rows.deltaRoundRow.laid ((layIn (World.holding Tryd.prog os ⟨#[], #[], []⟩)).forCall (fun _ _ => 0) ⟨#[], wit, []⟩).memory :=
  laidMetH_of_parts (laidMet_nil _ _) (by kernel_rfl)
theorem reads (os : Os) {H : Type} (enc : TypeId × Value → H) : ∃ ds places, DataW.whole enc Tryd.prog ((layIn (World.holding Tryd.prog os ⟨#[], #[], []⟩)).forCall (fun _ _ => 0) ⟨#[], wit, []⟩).memory Tryd.f4.params.toList Rows.deltaRoundSpec.vars false wit.toList 8 = some (ds, [], places) :=
  ⟨[.nil, .nil], [], by kernel_rfl⟩

set_option maxRecDepth 100000 in
theorem lifted (os : Os) (started : os.Started) (H : Type) (enc : TypeId × Value → H) (F : Stop.Interp) :
    ReturnsInHanded {} Tryd.checked os 4 .any ((OpenSpec.ofChange Rows.deltaRoundSpec).preRow enc Tryd.prog Tryd.f4 Rows.deltaRoundRow.domain false Rows.deltaRoundRow.laid) (((OpenSpec.ofChange Rows.deltaRoundSpec).at F).post enc Tryd.prog Tryd.f4 false true false false) := by
  obtain ⟨ds, places, hx⟩ := reads os enc
  refine returnsInHanded_of_row (C := Tryd.checked) (s := OpenSpec.ofChange Rows.deltaRoundSpec) own started (by kernel_rfl) Tryd.func4
    (witness_row_at (enc := enc) (C := Tryd.checked) false (layIn (World.holding Tryd.prog os ⟨#[], #[], []⟩)) wit rfl (by kernel_rfl) (by kernel_rfl) (by kernel_rfl)
      (OpenSpec.preRow_of_cond 8 hx (by kernel_rfl) (fun k hk => by cases hk) (by kernel_rfl) (laid_met os))) ?_
  intro W base args ds gs before hval hW _ _ hsz hL _ _
  exact contract H enc W base args ds gs before hval hW hsz hL

theorem said : Rows.DeltaRoundSaid :=
  OpenClaim.holds_of_cond 4 Tryd.f4 rfl rfl rfl rfl rfl rfl rfl ⟨rfl, rfl, rfl, rfl, rfl⟩ rfl rfl rfl rfl rfl (by kernel_rfl) Tryd.func4 (by kernel_rfl)
    (of_decide_eq_true (by kernel_rfl)) (by unfold Func.isWrapper; first | (rw [if_pos (by decide +kernel)]; kernel_rfl) | (rw [if_neg (by decide +kernel)]; exact ⟨rfl, rfl⟩))
    (fun os started H enc _ F => by rw [OpenClaim.pre_eq_preRow]; exact lifted os started H enc F)

theorem plain (f : FuncId) (fn : Func) (hf : Tryd.pinned.checked.prog.funcNamed "gitlike/gitlikelaw4.DeltaRound" = some f) (hfn : Tryd.pinned.checked.prog.funcs[f]? = some fn) :
    true = Tryd.pinned.checked.prog.looks [] ∧ ∀ (j : Nat) t, fn.params[j]? = some t → Tryd.pinned.checked.prog.wantsStandIn t = false := by
  obtain rfl : f = 4 := Option.some.inj ((show Tryd.prog.funcNamed "gitlike/gitlikelaw4.DeltaRound" = some 4 by kernel_rfl).symm.trans hf) |>.symm
  obtain rfl : fn = Tryd.f4 := (Option.some.inj (Tryd.func4.symm.trans hfn)).symm
  refine ⟨by kernel_rfl, fun j t ht => ?_⟩
  rw [Tryd.params4] at ht
  have hm : t = 22 := by simpa using Array.mem_of_getElem? ht
  subst hm
  exact (show Tryd.prog.wantsStandIn 22 = false by kernel_rfl)

end Go.Proofs.YtblegkefeiefjaaDoor.Round
namespace Go.Proofs.YtblegkefeiefjaaDoor
/-- THE CARD -/
theorem deltaRound_card : Rows.DeltaRoundCardSaid :=
  Claim7.holds_tied_plain_at .later [] _ _ _ _ Round.said (fun _ h => by cases h) (by kernel_rfl) (fun _ h => by cases h) deltaRound_row_tie rfl ⟨rfl, rfl⟩ (by kernel_rfl) rfl Round.plain (by kernel_rfl)
#print axioms deltaRound_card
end Go.Proofs.YtblegkefeiefjaaDoor
