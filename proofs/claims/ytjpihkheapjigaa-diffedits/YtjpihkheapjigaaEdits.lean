/- THE LAW 'DiffEdits': its row. -/
import Derived.Test.YtjpihkheapjigaaDeL
import Derived.Test.YtjpihkheapjigaaEdR
import Derived.Test.YtjpihkheapjigaaEdQ
import Derived.Test.YtjpihkheapjigaaEdS
import Derived.Test.YtjpihkheapjigaaOpn
namespace Go.Proofs.Ytjpihkheapjigaa.Edits
open Go.ChangeShapes Go.WideShapes Go.ChangeAt Go.RowKit
theorem refE : RefE := fun a ca s hA hs b cb t hB ht => by
  by_cases h1 : 2000 < (lns s).length
  · exact refEdits_big1 a ca s hA hs b cb t hB ht h1
  · by_cases h2 : 2000 < (lns t).length
    · exact refEdits_big2 a ca s hA hs b cb t hB ht h1 h2
    · exact refEdits_small a ca s hA hs b cb t hB ht (fun h => h.elim h1 h2)
set_option maxRecDepth 100000 in
theorem contract (H : Type) (enc : TypeId × Value → H) (W : World) (base : Nat) (args : Array Value) (ds gs : List (DataW H)) (before : List MemPlace)
    (hval : ∀ (j : Nat) t v, Try.f3.params[j]? = some t → args[j]? = some v → Value.okWide Try.prog W .any base t v)
    (hW : DataW.Whole enc Try.prog Try.f3.params.toList Rows.diffEditsSpec.vars false W args.toList ds gs before) :
    Calls Try.prog 3 args W fun e W' => ∃ v, e = .returned v ∧ Rows.diffEditsSpec.post enc Try.prog Try.f3 false true false false W args v W' := by
  have hW' := hW
  obtain ⟨p, q, hA0, hV, rfl, hfz, hnd⟩ := hW
  have hA : DataW.TrodAll enc Try.prog W 0 (fun _ => true) true Try.f3.params.toList args.toList ds p := hA0
  rw [Try.params3] at hA hval
  obtain ⟨v0, vs0, d0, ds0, p0, q0, hargs, rfl, rfl, h0, r0⟩ := trodAll_cons hA
  obtain ⟨v1, vs1, d1, ds1, p1, q1, rfl, rfl, rfl, h1, r1⟩ := trodAll_cons r0
  obtain ⟨rfl, rfl, rfl⟩ := trodAll_nil r1
  obtain rfl : args = #[v0, v1] := by cases args; simp_all
  obtain ⟨rfl, rfl⟩ := trodVars_none hV
  have k0 := h0
  have k1 := h1
  have lt0 : ∀ x ∈ p0, x.block < W.heap.size := by obtain ⟨m, hm⟩ := k0; exact DataW.trod_lt m _ _ _ hm
  have lt1 : ∀ x ∈ p1, x.block < W.heap.size := by obtain ⟨m, hm⟩ := k1; exact DataW.trod_lt m _ _ _ hm
  obtain ⟨a0, len0, cap0, rfl⟩ := okWide_slice Try.underlying22 (hval 0 22 v0 rfl rfl)
  obtain ⟨a1, len1, cap1, rfl⟩ := okWide_slice Try.underlying22 (hval 1 22 v1 rfl rfl)
  obtain ⟨a, ca, s, he0, _, hPA⟩ : One W (.slice a0 len0 cap0) := by obtain ⟨fuel, hf⟩ := h0; exact open_one (y := (d0, p0)) hf
  obtain ⟨b, cb, t, he1, _, hPB⟩ : One W (.slice a1 len1 cap1) := by obtain ⟨fuel, hf⟩ := h1; exact open_one (y := (d1, p1)) hf
  clear hA0
  injection he0 with e1 e2 e3
  injection he1 with e4 e5 e6
  subst e1 e2 e3 e4 e5 e6
  have walk : Calls Try.prog 3 #[.slice a0 s.length cap0, .slice a1 t.length cap1] W (IsTrue W) := by
    by_cases hs : 4000 < s.length
    · exact walkE_one a0 a1 s.length cap0 t.length cap1 W hs
    · by_cases ht : 4000 < t.length
      · exact walkE_two a0 a1 s.length cap0 t.length cap1 W hs ht
      · exact walkE refE a0 cap0 s hPA (by omega) a1 cap1 t hPB (by omega)
  refine walk.mono fun e W' ⟨he, bel⟩ => ?_
  subst he
  exact ⟨_, rfl, _, _, _, [], _, [], hW', trodAll_mk1 (shut_bool Try.underlying4 _), (trodAll_cons_mk (Below.trod laidOut (by kernel_rfl) (of_decide_eq_true (by kernel_rfl)) k0 bel lt0) (trodAll_cons_mk (Below.trod laidOut (by kernel_rfl) (of_decide_eq_true (by kernel_rfl)) k1 bel lt1) trodAll_mk0)), rfl, bel.frame _, fun h => by cases h⟩
theorem laid_met (os : Os) : laidMetH Try.prog Rows.diffEditsRow.laid (((World.holding Try.prog os ⟨#[], #[], []⟩)).forCall (fun _ _ => 0) ⟨#[], #[.slice none 0 0, .slice none 0 0], []⟩).memory := laidMet_nil _ _
theorem reads (os : Os) {H : Type} (enc : TypeId × Value → H) : ∃ places, DataW.whole enc Try.prog (((World.holding Try.prog os ⟨#[], #[], []⟩)).forCall (fun _ _ => 0) ⟨#[], #[.slice none 0 0, .slice none 0 0], []⟩).memory Try.f3.params.toList Rows.diffEditsSpec.vars false #[Value.slice none 0 0, Value.slice none 0 0].toList 8 = some ([.nil, .nil], [], places) :=
  ⟨[], by kernel_rfl⟩
set_option maxRecDepth 100000 in
theorem lifted (os : Os) (started : os.Started) (H : Type) (enc : TypeId × Value → H) (F : Stop.Interp) :
    ReturnsInHanded {} Try.checked os 3 .any ((OpenSpec.ofChange Rows.diffEditsSpec).preRow enc Try.prog Try.f3 Rows.diffEditsRow.domain false Rows.diffEditsRow.laid) (((OpenSpec.ofChange Rows.diffEditsSpec).at F).post enc Try.prog Try.f3 false true false false) := by
  obtain ⟨places, hx⟩ := reads os enc
  refine returnsInHanded_of_row (C := Try.checked) (s := OpenSpec.ofChange Rows.diffEditsSpec) own started (by kernel_rfl) Try.func3
    (witness_row_at (enc := enc) (C := Try.checked) false (World.holding Try.prog os ⟨#[], #[], []⟩) #[.slice none 0 0, .slice none 0 0] rfl (by kernel_rfl) (by kernel_rfl) (by kernel_rfl)
      (OpenSpec.preRow_of_cond 8 hx (by kernel_rfl) (fun k hk => by cases hk) (by kernel_rfl) (laid_met os))) ?_
  intro W base args ds gs before hval hW _ _ _ hL _ _
  exact contract H enc W base args ds gs before hval hW
end Go.Proofs.Ytjpihkheapjigaa.Edits
namespace Go.Proofs.Ytjpihkheapjigaa
open Go.RowKit
theorem diffEdits_holds : Rows.DiffEditsSaid :=
  OpenClaim.holds_of_cond 3 Try.f3 rfl rfl rfl rfl rfl rfl rfl ⟨rfl, rfl, rfl, rfl, rfl⟩ rfl rfl rfl rfl rfl (by kernel_rfl) Try.func3 (by kernel_rfl)
    (of_decide_eq_true (by kernel_rfl)) (by unfold Func.isWrapper; first | (rw [if_pos (by decide +kernel)]; kernel_rfl) | (rw [if_neg (by decide +kernel)]; exact ⟨rfl, rfl⟩))
    (fun os started H enc _ F => by rw [OpenClaim.pre_eq_preRow]; exact Edits.lifted os started H enc F)
#print axioms diffEdits_holds
end Go.Proofs.Ytjpihkheapjigaa
