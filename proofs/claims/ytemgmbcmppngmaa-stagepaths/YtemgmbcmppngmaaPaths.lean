/- THE LAW 'StagePaths': its walk and its row. -/
import Derived.Test.YtemgmbcmppngmaaPaR
import Derived.Test.YtemgmbcmppngmaaRows
import Derived.WalkKit
import Derived.ProofKit
import Derived.OpenShut
import Derived.Below
import Derived.Deep.DeepHandedRow
import Derived.ChangeSame
import Derived.ChangeMaps5
namespace Go.Proofs.Ytemgmbcmppngmaa.Paths
open Go.ChangeShapes Go.WideShapes Go.ChangeAt Go.RowKit
set_option linter.unusedVariables false

theorem walk_long (s : ByteArray) (w : World) (h : 10000 < s.size) (hm : s.size ≤ 9223372036854775807) : Calls Try.prog 3 #[.string s] w fun e w' => e = .returned (.bool true) ∧ Below w.heap.size w w' := by
  have hi : (10000 : Int) < (s.size : Int) := by omega
  have HB : Hid (Below w.heap.size w w) := Below.refl _ _
  go_enter Try.func3, Try.ntmps3
  go_wp2
  go_ret
  exact ⟨rfl, HB.out⟩
theorem walk_short (s : List UInt8) (w : World) (hs : s.length ≤ 10000) : Calls Try.prog 3 #[.string ⟨s.toArray⟩] w fun e w' => e = .returned (.bool true) ∧ Below w.heap.size w w' := by
  obtain ⟨S, HS⟩ : ∃ S : ByteArray, Hid (⟨s.toArray⟩ = S) := ⟨_, rfl⟩
  obtain ⟨n, HN⟩ : ∃ n, Hid (s.length = n) := ⟨_, rfl⟩
  have hsz : S.size = n := by rw [← HS.out, txt_len]; exact HN.out
  have hn : ¬ (10000 : Int) < (n : Int) := by rw [← HN.out]; omega
  have C4 : Hid (Calls Try.prog 4 #[.string S] w fun e w' => BIs (okP s) e ∧ Below w.heap.size w w') := hid (by
    rw [← HS.out]; exact isPath_all s w)
  have C5 : Hid (∀ W, Calls Try.prog 5 #[.string S] W fun e w' => BIs (okP s) e ∧ w' = W) := fun W => by
    rw [← HS.out]; exact refPath_any s W
  rw [HS.out]
  go_enter Try.func3, Try.ntmps3
  go_wp2_with fail
  refine C4.out.mono ?_
  rintro e w1 ⟨hb1, hB1⟩
  have HB1 : Hid (Below w.heap.size w w1) := hB1
  clear hB1
  rcases bis_or hb1 with ⟨hy, rfl⟩ | ⟨hy, rfl⟩
  all_goals
    have HY : Hid _ := hy
    clear hy hb1
    go_wp2_with fail
    refine (C5.out _).mono ?_
    rintro e w2 ⟨hb2, rfl⟩
    rcases bis_or hb2 with ⟨hz, rfl⟩ | ⟨hz, rfl⟩
    · first
        | exact absurd hz HY.out
        | (clear hz hb2
           go_wp2
           go_ret
           exact ⟨rfl, HB1.out⟩)
    · first
        | exact absurd HY.out hz
        | (clear hz hb2
           go_wp2
           go_ret
           exact ⟨rfl, HB1.out⟩)
theorem own : ownKnob Try.prog.godebug = none := by kernel_rfl
theorem laidOut : laidOutB Try.prog = true := by kernel_rfl
set_option maxRecDepth 100000 in
theorem contract (H : Type) (enc : TypeId × Value → H) (W : World) (base : Nat) (args : Array Value) (ds gs : List (DataW H)) (before : List MemPlace)
    (hval : ∀ (j : Nat) t v, Try.f3.params[j]? = some t → args[j]? = some v → Value.okWide Try.prog W .any base t v)
    (hW : DataW.Whole enc Try.prog Try.f3.params.toList Rows.stagePathsSpec.vars false W args.toList ds gs before) :
    Calls Try.prog 3 args W fun e W' => ∃ v, e = .returned v ∧ Rows.stagePathsSpec.post enc Try.prog Try.f3 false true false false W args v W' := by
  have hW' := hW
  obtain ⟨p, q, hA0, hV, rfl, hfz, hnd⟩ := hW
  have hA : DataW.TrodAll enc Try.prog W 0 (fun _ => true) true Try.f3.params.toList args.toList ds p := hA0
  rw [Try.params3] at hA hval
  obtain ⟨v0, vs0, d0, ds0, p0, q0, hargs, rfl, rfl, h0, r0⟩ := trodAll_cons hA
  obtain ⟨rfl, rfl, rfl⟩ := trodAll_nil r0
  obtain rfl : args = #[v0] := by cases args; simp_all
  obtain ⟨rfl, rfl⟩ := trodVars_none hV
  obtain ⟨s, rfl, -, -, hsm⟩ := Go.ChangeMaps.open_string Try.underlying9 (hval 0 9 v0 rfl rfl) h0
  have k0 := h0
  have lt0 : ∀ x ∈ p0, x.block < W.heap.size := by obtain ⟨m, hm⟩ := k0; exact DataW.trod_lt m _ _ _ hm
  clear hA0
  have walk : Calls Try.prog 3 #[.string s] W fun e w' => e = .returned (.bool true) ∧ Below W.heap.size W w' := by
    by_cases hlong : 10000 < s.size
    · exact walk_long s W hlong (by unfold maxLen at hsm; omega)
    · have e : s = ⟨s.data.toList.toArray⟩ := rfl
      have hl : s.data.toList.length ≤ 10000 := by
        have : s.data.toList.length = s.size := Array.length_toList
        omega
      rw [e]
      exact walk_short s.data.toList W hl
  refine walk.mono fun e W' ⟨he, bel⟩ => ?_
  subst he
  exact ⟨_, rfl, _, _, _, [], _, [], hW', trodAll_mk1 (shut_bool Try.underlying4 _), (trodAll_cons_mk (Below.trod laidOut (by kernel_rfl) (of_decide_eq_true (by kernel_rfl)) k0 bel lt0) trodAll_mk0), rfl, bel.frame _, fun h => by cases h⟩

theorem laid_met (os : Os) : laidMetH Try.prog Rows.stagePathsRow.laid (((World.holding Try.prog os ⟨#[], #[], []⟩)).forCall (fun _ _ => 0) ⟨#[], #[.string ⟨#[]⟩], []⟩).memory := laidMet_nil _ _
theorem reads (os : Os) {H : Type} (enc : TypeId × Value → H) : ∃ places, DataW.whole enc Try.prog (((World.holding Try.prog os ⟨#[], #[], []⟩)).forCall (fun _ _ => 0) ⟨#[], #[.string ⟨#[]⟩], []⟩).memory Try.f3.params.toList Rows.stagePathsSpec.vars false #[Value.string ⟨#[]⟩].toList 8 = some ([.lit (.string [])], [], places) :=
  ⟨[], by kernel_rfl⟩

set_option maxRecDepth 100000 in
theorem lifted (os : Os) (started : os.Started) (H : Type) (enc : TypeId × Value → H) (F : Stop.Interp) :
    ReturnsInHanded {} Try.checked os 3 .any ((OpenSpec.ofChange Rows.stagePathsSpec).preRow enc Try.prog Try.f3 Rows.stagePathsRow.domain false Rows.stagePathsRow.laid) (((OpenSpec.ofChange Rows.stagePathsSpec).at F).post enc Try.prog Try.f3 false true false false) := by
  obtain ⟨places, hx⟩ := reads os enc
  refine returnsInHanded_of_row (C := Try.checked) (s := OpenSpec.ofChange Rows.stagePathsSpec) own started (by kernel_rfl) Try.func3
    (witness_row_at (enc := enc) (C := Try.checked) false (World.holding Try.prog os ⟨#[], #[], []⟩) #[.string ⟨#[]⟩] rfl (by kernel_rfl) (by kernel_rfl) (by kernel_rfl)
      (OpenSpec.preRow_of_cond 8 hx (by kernel_rfl) (fun k hk => by cases hk) (by kernel_rfl) (laid_met os))) ?_
  intro W base args ds gs before hval hW _ _ _ hL _ _
  exact contract H enc W base args ds gs before hval hW
end Go.Proofs.Ytemgmbcmppngmaa.Paths
namespace Go.Proofs.Ytemgmbcmppngmaa
open Go.RowKit
theorem stagePaths_holds : Rows.StagePathsSaid :=
  OpenClaim.holds_of_cond 3 Try.f3 rfl rfl rfl rfl rfl rfl rfl ⟨rfl, rfl, rfl, rfl, rfl⟩ rfl rfl rfl rfl rfl (by kernel_rfl) Try.func3 (by kernel_rfl)
    (of_decide_eq_true (by kernel_rfl)) (by unfold Func.isWrapper; first | (rw [if_pos (by decide +kernel)]; kernel_rfl) | (rw [if_neg (by decide +kernel)]; exact ⟨rfl, rfl⟩))
    (fun os started H enc _ F => by rw [OpenClaim.pre_eq_preRow]; exact Paths.lifted os started H enc F)
#print axioms stagePaths_holds
end Go.Proofs.Ytemgmbcmppngmaa
