/- THE LAW 'MergeTexts': its row. -/
import Derived.Test.YtakddciegnkpdaaMgK
import Derived.Test.YtakddciegnkpdaaOpn
import Derived.Test.YtakddciegnkpdaaEdR
import Derived.Test.YtakddciegnkpdaaEdQ
import Derived.Test.YtakddciegnkpdaaEdS
import Derived.ChangeMaps5
namespace Go.Proofs.Ytakddciegnkpdaa.Texts
open Go.ChangeShapes Go.WideShapes Go.ChangeAt Go.RowKit
theorem refE : RefE := fun a ca s hA hs b cb t hB ht => by
  by_cases h1 : 2000 < (lns s).length
  · exact refEdits_big1 a ca s hA hs b cb t hB ht h1
  · by_cases h2 : 2000 < (lns t).length
    · exact refEdits_big2 a ca s hA hs b cb t hB ht h1 h2
    · exact refEdits_small a ca s hA hs b cb t hB ht (fun h => h.elim h1 h2)
set_option maxRecDepth 100000 in
theorem contract (H : Type) (enc : TypeId × Value → H) (W : World) (base : Nat) (args : Array Value) (ds gs : List (DataW H)) (before : List MemPlace)
    (hval : ∀ (j : Nat) t v, Try.f3.params[j]? = some t → args[j]? = some v → Value.okWide Try.prog W .any base t v)
    (hW : DataW.Whole enc Try.prog Try.f3.params.toList Rows.mergeTextsSpec.vars false W args.toList ds gs before)
    (hsz : (DataW.weightsEach Try.prog (Try.f3.params.toList ++ (OpenSpec.ofChange Rows.mergeTextsSpec).bare.plain.varTypes Try.prog) (ds ++ gs)).all (· ≤ reachBytes) = true) :
    Calls Try.prog 3 args W fun e W' => ∃ v, e = .returned v ∧ Rows.mergeTextsSpec.post enc Try.prog Try.f3 false true false false W args v W' := by
  have hW' := hW
  obtain ⟨p, q, hA0, hV, rfl, hfz, hnd⟩ := hW
  have hA : DataW.TrodAll enc Try.prog W 0 (fun _ => true) true Try.f3.params.toList args.toList ds p := hA0
  rw [Try.params3] at hA hval hsz
  obtain ⟨v0, vs0, d0, ds0, p0, q0, hargs, rfl, rfl, h0, r0⟩ := trodAll_cons hA
  obtain ⟨v1, vs1, d1, ds1, p1, q1, rfl, rfl, rfl, h1, r1⟩ := trodAll_cons r0
  obtain ⟨v2, vs2, d2, ds2, p2, q2, rfl, rfl, rfl, h2, r2⟩ := trodAll_cons r1
  obtain ⟨v3, vs3, d3, ds3, p3, q3, rfl, rfl, rfl, h3, r3⟩ := trodAll_cons r2
  obtain ⟨v4, vs4, d4, ds4, p4, q4, rfl, rfl, rfl, h4, r4⟩ := trodAll_cons r3
  obtain ⟨rfl, rfl, rfl⟩ := trodAll_nil r4
  obtain rfl : args = #[v0, v1, v2, v3, v4] := by cases args; simp_all
  obtain ⟨rfl, rfl⟩ := trodVars_none hV
  have k0 := h0
  have k1 := h1
  have k2 := h2
  have k3 := h3
  have k4 := h4
  have lt0 : ∀ x ∈ p0, x.block < W.heap.size := by obtain ⟨m, hm⟩ := k0; exact DataW.trod_lt m _ _ _ hm
  have lt1 : ∀ x ∈ p1, x.block < W.heap.size := by obtain ⟨m, hm⟩ := k1; exact DataW.trod_lt m _ _ _ hm
  have lt2 : ∀ x ∈ p2, x.block < W.heap.size := by obtain ⟨m, hm⟩ := k2; exact DataW.trod_lt m _ _ _ hm
  have lt3 : ∀ x ∈ p3, x.block < W.heap.size := by obtain ⟨m, hm⟩ := k3; exact DataW.trod_lt m _ _ _ hm
  have lt4 : ∀ x ∈ p4, x.block < W.heap.size := by obtain ⟨m, hm⟩ := k4; exact DataW.trod_lt m _ _ _ hm
  obtain ⟨a0, len0, cap0, rfl⟩ := okWide_slice Try.underlying22 (hval 0 22 v0 rfl rfl)
  obtain ⟨b0, cb0, s0, he0, _, hP0⟩ : One W (.slice a0 len0 cap0) := by obtain ⟨fuel, hf⟩ := h0; exact open_one (y := (d0, p0)) hf
  obtain ⟨a1, len1, cap1, rfl⟩ := okWide_slice Try.underlying22 (hval 1 22 v1 rfl rfl)
  obtain ⟨b1, cb1, s1, he1, _, hP1⟩ : One W (.slice a1 len1 cap1) := by obtain ⟨fuel, hf⟩ := h1; exact open_one (y := (d1, p1)) hf
  obtain ⟨a2, len2, cap2, rfl⟩ := okWide_slice Try.underlying22 (hval 2 22 v2 rfl rfl)
  obtain ⟨b2, cb2, s2, he2, _, hP2⟩ : One W (.slice a2 len2 cap2) := by obtain ⟨fuel, hf⟩ := h2; exact open_one (y := (d2, p2)) hf
  obtain ⟨s3, rfl, hd3, _, hsm3⟩ := Go.ChangeMaps.open_string Try.underlying9 (hval 3 9 v3 rfl rfl) h3
  obtain ⟨s4, rfl, hd4, _, hsm4⟩ := Go.ChangeMaps.open_string Try.underlying9 (hval 4 9 v4 rfl rfl) h4
  clear hA0
  injection he0 with e1 e2 e3
  subst e1 e2 e3
  injection he1 with e1 e2 e3
  subst e1 e2 e3
  injection he2 with e1 e2 e3
  subst e1 e2 e3
  have hw3 : s3.data.toList.length ≤ reachBytes := by
    refine of_decide_eq_true (List.all_eq_true.1 hsz s3.data.toList.length ?_)
    rw [hd3]
    simp only [List.cons_append, List.nil_append, List.append_nil, DataW.weightsEach, List.mem_append]
    simp [DataW.weights]
  unfold reachBytes at hw3
  have hw4 : s4.data.toList.length ≤ reachBytes := by
    refine of_decide_eq_true (List.all_eq_true.1 hsz s4.data.toList.length ?_)
    rw [hd4]
    simp only [List.cons_append, List.nil_append, List.append_nil, DataW.weightsEach, List.mem_append]
    simp [DataW.weights]
  unfold reachBytes at hw4
  have z3 : s3 = ⟨s3.data.toList.toArray⟩ := rfl
  have z4 : s4 = ⟨s4.data.toList.toArray⟩ := rfl
  have walk : Calls Try.prog 3 #[.slice a0 s0.length cap0, .slice a1 s1.length cap1, .slice a2 s2.length cap2, .string s3, .string s4] W (IsTrue W) := by
    rw [z3, z4]
    generalize s3.data.toList = x3 at hw3 ⊢
    generalize s4.data.toList = x4 at hw4 ⊢
    by_cases h0 : 3000 < s0.length
    · exact walkT_one a0 a1 a2 s0.length cap0 s1.length cap1 s2.length cap2 x3 x4 W h0
    · by_cases h1 : 3000 < s1.length
      · exact walkT_two a0 a1 a2 s0.length cap0 s1.length cap1 s2.length cap2 x3 x4 W h0 h1
      · by_cases h2 : 3000 < s2.length
        · exact walkT_three a0 a1 a2 s0.length cap0 s1.length cap1 s2.length cap2 x3 x4 W h0 h1 h2
        · by_cases h3 : 3000 < x3.length + x4.length
          · exact walkT_four a0 a1 a2 s0.length cap0 s1.length cap1 s2.length cap2 x3 x4 W h0 h1 h2 (by omega) (by omega) h3
          · exact walkT refE a0 cap0 s0 hP0 (by omega) a1 cap1 s1 hP1 (by omega) a2 cap2 s2 hP2 (by omega) x3 x4 (by omega)
  refine walk.mono fun e W' ⟨he, bel⟩ => ?_
  subst he
  exact ⟨_, rfl, _, _, _, [], _, [], hW', trodAll_mk1 (shut_bool Try.underlying4 _), (trodAll_cons_mk (Below.trod laidOut (by kernel_rfl) (of_decide_eq_true (by kernel_rfl)) k0 bel lt0) (trodAll_cons_mk (Below.trod laidOut (by kernel_rfl) (of_decide_eq_true (by kernel_rfl)) k1 bel lt1) (trodAll_cons_mk (Below.trod laidOut (by kernel_rfl) (of_decide_eq_true (by kernel_rfl)) k2 bel lt2) (trodAll_cons_mk (Below.trod laidOut (by kernel_rfl) (of_decide_eq_true (by kernel_rfl)) k3 bel lt3) (trodAll_cons_mk (Below.trod laidOut (by kernel_rfl) (of_decide_eq_true (by kernel_rfl)) k4 bel lt4) trodAll_mk0))))), rfl, bel.frame _, fun h => by cases h⟩
theorem laid_met (os : Os) : laidMetH Try.prog Rows.mergeTextsRow.laid (((World.holding Try.prog os ⟨#[], #[], []⟩)).forCall (fun _ _ => 0) ⟨#[], #[.slice none 0 0, .slice none 0 0, .slice none 0 0, .string ⟨#[]⟩, .string ⟨#[]⟩], []⟩).memory := laidMet_nil _ _
theorem reads (os : Os) {H : Type} (enc : TypeId × Value → H) : ∃ places, DataW.whole enc Try.prog (((World.holding Try.prog os ⟨#[], #[], []⟩)).forCall (fun _ _ => 0) ⟨#[], #[.slice none 0 0, .slice none 0 0, .slice none 0 0, .string ⟨#[]⟩, .string ⟨#[]⟩], []⟩).memory Try.f3.params.toList Rows.mergeTextsSpec.vars false #[Value.slice none 0 0, Value.slice none 0 0, Value.slice none 0 0, Value.string ⟨#[]⟩, Value.string ⟨#[]⟩].toList 8 = some ([.nil, .nil, .nil, .lit (.string []), .lit (.string [])], [], places) :=
  ⟨[], by kernel_rfl⟩
set_option maxRecDepth 100000 in
theorem lifted (os : Os) (started : os.Started) (H : Type) (enc : TypeId × Value → H) (F : Stop.Interp) :
    ReturnsInHanded {} Try.checked os 3 .any ((OpenSpec.ofChange Rows.mergeTextsSpec).preRow enc Try.prog Try.f3 Rows.mergeTextsRow.domain false Rows.mergeTextsRow.laid) (((OpenSpec.ofChange Rows.mergeTextsSpec).at F).post enc Try.prog Try.f3 false true false false) := by
  obtain ⟨places, hx⟩ := reads os enc
  refine returnsInHanded_of_row (C := Try.checked) (s := OpenSpec.ofChange Rows.mergeTextsSpec) own started (by kernel_rfl) Try.func3
    (witness_row_at (enc := enc) (C := Try.checked) false (World.holding Try.prog os ⟨#[], #[], []⟩) #[.slice none 0 0, .slice none 0 0, .slice none 0 0, .string ⟨#[]⟩, .string ⟨#[]⟩] rfl (by kernel_rfl) (by kernel_rfl) (by kernel_rfl)
      (OpenSpec.preRow_of_cond 8 hx (by kernel_rfl) (fun k hk => by cases hk) (by kernel_rfl) (laid_met os))) ?_
  intro W base args ds gs before hval hW _ _ hsz hL _ _
  exact contract H enc W base args ds gs before hval hW hsz
end Go.Proofs.Ytakddciegnkpdaa.Texts
namespace Go.Proofs.Ytakddciegnkpdaa
open Go.RowKit
theorem mergeTexts_holds : Rows.MergeTextsSaid :=
  OpenClaim.holds_of_cond 3 Try.f3 rfl rfl rfl rfl rfl rfl rfl ⟨rfl, rfl, rfl, rfl, rfl⟩ rfl rfl rfl rfl rfl (by kernel_rfl) Try.func3 (by kernel_rfl)
    (of_decide_eq_true (by kernel_rfl)) (by unfold Func.isWrapper; first | (rw [if_pos (by decide +kernel)]; kernel_rfl) | (rw [if_neg (by decide +kernel)]; exact ⟨rfl, rfl⟩))
    (fun os started H enc _ F => by rw [OpenClaim.pre_eq_preRow]; exact Texts.lifted os started H enc F)
#print axioms mergeTexts_holds
end Go.Proofs.Ytakddciegnkpdaa
