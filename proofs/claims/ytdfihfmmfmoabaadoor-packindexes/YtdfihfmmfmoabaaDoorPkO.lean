/- 'slices.BinarySearchFunc' of places. -/
import Derived.Test.YtdfihfmmfmoabaaDoorPkM
namespace Go.Proofs.YtdfihfmmfmoabaaDoor
open Go.RowKit Go.Shelf
variable [Inhabited Pn]
set_option linter.unusedVariables false
set_option linter.unusedSectionVars false
set_option linter.unusedSimpArgs false
theorem cb_zero : ∀ a b : List UInt8, Lib.compareBytes a b = 0 ↔ a = b
  | [], [] => by simp [Lib.compareBytes]
  | [], b :: bs => by simp [Lib.compareBytes]
  | a :: xs, [] => by simp [Lib.compareBytes]
  | a :: xs, b :: bs => by
    rw [Lib.compareBytes]
    by_cases h1 : a < b
    · have hne : a ≠ b := fun e => by rw [e] at h1; exact absurd h1 (by rw [UInt8.lt_iff_toNat_lt]; omega)
      simp [h1, hne]
    · rw [if_neg h1]
      by_cases h2 : b < a
      · have hne : a ≠ b := fun e => by rw [e] at h2; exact absurd h2 (by rw [UInt8.lt_iff_toNat_lt]; omega)
        simp [h2, hne]
      · rw [if_neg h2]
        have he : a = b := by
          rw [UInt8.lt_iff_toNat_lt] at h1 h2
          exact UInt8.toNat_inj.1 (by omega)
        rw [cb_zero xs bs]
        simp [he]
/-- A step of a region that draws: a call of a function value, by its contract. -/
theorem step_callt {P : Program} {ops : Array Oper} {o : Oper} {a : Act} {w : World} {K : Act → World → Prop} {Q : Exit → Act → World → Prop} {E : Prop} (hw : Region.wanted o (yielded ops a.tmps) = true) (c : Operand) (f : FuncId) (args : List Operand) (ts : Array TypeId) (vs : List Value) (R : Ending → World → Prop)
    (ho : o.op = .call { callee := .value c, args := args.toArray, argTypes := ts }) (hcv : a.eval c = .func (.func f) #[] #[]) (hx : args.map a.eval = vs) (hent : ∀ w : World, (callFunc f vs.toArray).run P w = .ok (.enter f vs.toArray) w)
    (hc : Calls P f vs.toArray w R) (h : ∀ e w', R e w' → ∃ r, e = .returned r ∧ K (a.put o.dst r) w') :
    if Region.wanted o (yielded ops a.tmps) = true then Oper.wp P o a w K Q else E := by
  rw [if_pos hw]
  unfold Oper.wp
  simp only [execOp, ho, resolve, hcv]
  simp only [invoke, go_sem, List.map_toArray, hx, hent]
  simp [go_sem, hent, Oper.upon_enter]
  refine hc.mono ?_
  intro e w' hr
  obtain ⟨r, rfl, hk⟩ := h e w' hr
  exact hk
set_option maxRecDepth 20000 in
set_option maxHeartbeats 1000000 in
theorem cmp37_any (x : Pl) (y : List Int) (hx : x.id.length = 20) (hy : y.length = 20) (w : World) : Calls Tryd.prog 37 #[.agg (plV x).toArray, .agg (row .u8 y).toArray] w fun e w' => e = .returned (.int .i64 (cmpI x.id y)) ∧ Grew w w' := by
  obtain ⟨g, HG⟩ : ∃ g, Hid (g = w.heap.size) := ⟨_, rfl⟩
  obtain ⟨X, HX⟩ : ∃ X : List Value, Hid (plV x = X) := ⟨_, rfl⟩
  obtain ⟨I, HI⟩ : ∃ X : List Value, Hid (row .u8 x.id = X) := ⟨_, rfl⟩
  obtain ⟨J, HJ⟩ : ∃ Y : List Value, Hid (row .u8 y = Y) := ⟨_, rfl⟩
  obtain ⟨w0, HW0⟩ : ∃ w0, Hid (w0 = (w.alloc (Obj.cells X.toArray 32)).alloc (Obj.cells J.toArray 24)) := ⟨_, rfl⟩
  have HGW : Hid (Grew w w0) := hid (by rw [HW0.out]; exact (Grew.alloc w _).trans (Grew.alloc _ _))
  have h1 : w0.heap[g]? = some (.cells X.toArray 32 (0, 0)) := by
    rw [HW0.out, HG.out]
    show ((w.heap.push _).push _)[w.heap.size]? = _
    rw [Array.getElem?_push, if_neg (by simp), Array.getElem?_push, if_pos rfl]
  have h2 : w0.heap[g + 1]? = some (.cells J.toArray 24 (0, 0)) := by
    rw [HW0.out, HG.out]
    show ((w.heap.push _).push _)[w.heap.size + 1]? = _
    rw [Array.getElem?_push, if_pos (by simp)]
  have RX : Hid (w0.rangeAt g 0 I) := hid (by have := range_row h1; rw [← HX.out] at this; rw [← HI.out]; exact pl_id this)
  have RY : Hid (w0.rangeAt (g + 1) 0 J) := hid (range_row h2)
  have hiI : (Tryd.prog.info? 24).map (·.size) = some I.length := by rw [← HI.out, row_len, hx]; exact Tryd.size24'
  have hiJ : (Tryd.prog.info? 24).map (·.size) = some J.length := by rw [← HJ.out, row_len, hy]; exact Tryd.size24'
  obtain ⟨r, HR⟩ : ∃ r, Hid (cmpI x.id y = r) := ⟨_, rfl⟩
  have HC : Hid (Calls Tryd.prog 27 #[.agg I.toArray, .agg J.toArray] w0 fun e w' => e = .returned (.int .i64 r) ∧ Grew w0 w') := hid (by
    rw [← HI.out, ← HJ.out, ← HR.out]
    exact compareIDs_any x.id y hx hy w0)
  rw [HX.out, HJ.out, HR.out]
  clear hx hy h1 h2
  go_enter Tryd.func37, Tryd.ntmps37
  go_wp2_with (first
    | (rw [← HG.out, ← HW0.out]; refine wpList_load_mid rfl 24 _ rfl g 0 rfl I _ RX.out Tryd.underlying24 rfl hiI ?_)
    | refine wpList_load_mid rfl 24 _ rfl g 0 rfl I _ RX.out Tryd.underlying24 rfl hiI ?_
    | refine wpList_load_mid rfl 24 _ rfl (g + 1) 0 rfl J _ RY.out Tryd.underlying24 rfl hiJ ?_
    | fail)
  refine HC.out.mono ?_
  rintro e w1 ⟨rfl, hg1⟩
  have HG1 : Hid (Grew w w1) := HGW.out.trans hg1
  clear hg1
  go_wp2
  go_ret
  exact ⟨rfl, HG1.out⟩
/-- Below it all is less, from it on none is. -/
def Cutat (l : List Pl) (y : List Int) (i j : Nat) : Prop := (∀ k, k < i → cmpI (l.getD k p0).id y < 0) ∧ ∀ k, j ≤ k → k < l.length → ¬ cmpI (l.getD k p0).id y < 0
theorem cut_up {l : List Pl} {y : List Int} {i j h : Nat} (hc : Cutat l y i j) (hs : SrtP l) (hl : h < l.length) (hh : cmpI (l.getD h p0).id y < 0) : Cutat l y (h + 1) j := by
  refine ⟨fun k hk => ?_, hc.2⟩
  by_cases hkh : k = h
  · rw [hkh]; exact hh
  · have h1 := List.pairwise_iff_getElem.1 hs k h (by omega) hl (by omega)
    have e1 : l.getD k p0 = l[k]'(by omega) := by rw [List.getD_eq_getElem?_getD, List.getElem?_eq_getElem (by omega)]; rfl
    have e2 : l.getD h p0 = l[h] := by rw [List.getD_eq_getElem?_getD, List.getElem?_eq_getElem hl]; rfl
    rw [e2] at hh
    rw [e1]
    unfold cmpI at *
    rw [cb_iff] at *
    exact List.lt_of_le_of_lt (List.not_lt.1 h1) hh
theorem cut_down {l : List Pl} {y : List Int} {i j h : Nat} (hc : Cutat l y i j) (hs : SrtP l) (hl : h < l.length) (hh : ¬ cmpI (l.getD h p0).id y < 0) : Cutat l y i h := by
  refine ⟨hc.1, fun k hk hkl => ?_⟩
  by_cases hkh : k = h
  · rw [hkh]; exact hh
  · have h1 := List.pairwise_iff_getElem.1 hs h k hl hkl (by omega)
    have e1 : l.getD k p0 = l[k] := by rw [List.getD_eq_getElem?_getD, List.getElem?_eq_getElem hkl]; rfl
    have e2 : l.getD h p0 = l[h] := by rw [List.getD_eq_getElem?_getD, List.getElem?_eq_getElem hl]; rfl
    rw [e2] at hh
    rw [e1]
    unfold cmpI at *
    rw [cb_iff] at *
    intro h2
    exact hh (List.lt_of_le_of_lt (List.not_lt.1 h1) h2)
/-- What was looked for is there, or nowhere. -/
theorem cut_found {l : List Pl} {y : List Int} {i : Nat} (hc : Cutat l y i i) (hs : SrtP l) (hw : Wp l) (hy : IsB y) (hi : i ≤ l.length) : (i < l.length ∧ cmpI (l.getD i p0).id y = 0) ↔ y ∈ l.map (·.id) := by
  have hg : ∀ k (hk : k < l.length), l.getD k p0 = l[k] := fun k hk => by rw [List.getD_eq_getElem?_getD, List.getElem?_eq_getElem hk]; rfl
  constructor
  · rintro ⟨h1, h2⟩
    rw [hg i h1] at h2
    refine List.mem_map.2 ⟨l[i], List.getElem_mem _, ?_⟩
    exact bytes_inj (hw _ (List.getElem_mem _)).2.1 hy ((cb_zero _ _).1 h2)
  · intro hm
    obtain ⟨p, hp, rfl⟩ := List.mem_map.1 hm
    obtain ⟨k, hk, rfl⟩ := List.getElem_of_mem hp
    have hk0 : cmpI (l.getD k p0).id (l[k]).id = 0 := by rw [hg k hk]; exact (cb_zero _ _).2 rfl
    have hik : i ≤ k := by
      rcases Nat.lt_or_ge k i with h | h
      · have := hc.1 k h; omega
      · exact h
    have hil : i < l.length := by omega
    refine ⟨hil, ?_⟩
    have h1 := hc.2 i (Nat.le_refl _) hil
    rw [hg i hil] at h1 ⊢
    unfold cmpI at *
    rw [cb_iff] at h1
    rw [cb_zero]
    by_cases hke : i = k
    · subst hke; rfl
    · have h2 := List.pairwise_iff_getElem.1 hs i k hil hk (by omega)
      exact lex_total _ _ h1 h2
end Go.Proofs.YtdfihfmmfmoabaaDoor
