import Derived.Test.YtikmbjfambjmaaaGreatDoorMf02
import Derived.Test.YtikmbjfambjmaaaGreatDoorMf01
namespace Go.Proofs.YtikmbjfambjmaaaGreatDoor
open Go.RowKit
set_option linter.unusedVariables false
set_option linter.unusedSimpArgs false
section
variable {P : Program} {ops : Array Oper} {o : Oper} {a : Act} {w : World} {K : Act → World → Prop} {Q : Exit → Act → World → Prop} {E : Prop}
theorem step_append (hg : o.guard = none) (s x : Operand) (t : TypeId) (sv xv v : Value) (w2 : World)
    (ho : o.op = .call { callee := .builtin .append, args := #[s, x], argTypes := #[t, t] }) (hs : a.eval s = sv) (hx : a.eval x = xv) (hr : (Builtin.append_ #[t, t] o.type #[sv, xv]).run P w = .ok v w2) (h : K (a.put o.dst v) w2) :
    if Region.wanted o (yielded ops a.tmps) = true then Oper.wp P o a w K Q else E := by
  have hw : Region.wanted o (yielded ops a.tmps) = true := by simp [Region.wanted, hg]
  rw [if_pos hw]
  unfold Oper.wp execOp
  simp only [ho, resolve, invoke, builtin, Sem.run_bind, Sem.run_pure, Result.andThen_ok, List.map_toArray, List.map_cons, List.map_nil, hs, hx, hr]
  exact h
theorem step_conv (hg : o.guard = none) (src dst : TypeId) (x : Operand) (xv v : Value) (w2 : World)
    (ho : o.op = .convert src dst x) (hx : a.eval x = xv) (hr : (convert src dst xv).run P w = .ok v w2) (h : K (a.put o.dst v) w2) :
    if Region.wanted o (yielded ops a.tmps) = true then Oper.wp P o a w K Q else E := by
  have hw : Region.wanted o (yielded ops a.tmps) = true := by simp [Region.wanted, hg]
  rw [if_pos hw]
  unfold Oper.wp execOp
  simp only [ho, Sem.run_bind, Sem.run_pure, Result.andThen_ok, hx, hr]
  exact h
theorem step_call1 (hg : o.guard = none) (f : FuncId) (s1 : Tmp) (t1 : TypeId) (v1 r : Value) (R : World → Prop)
    (ho : o.op = .call { callee := .value (.func f), args := #[.tmp s1], argTypes := #[t1] }) (hx1 : a.eval (.tmp s1) = v1) (hent : ∀ (v1 : Value) (w : World), (callFunc f #[v1]).run P w = .ok (.enter f #[v1]) w)
    (hc : Calls P f #[v1] w fun e w' => e = .returned r ∧ R w') (h : ∀ w', R w' → K (a.put o.dst r) w') :
    if Region.wanted o (yielded ops a.tmps) = true then Oper.wp P o a w K Q else E := by
  have hw : Region.wanted o (yielded ops a.tmps) = true := by simp [Region.wanted, hg]
  rw [if_pos hw]
  have h1' : a.tmps[s1]?.getD undef = v1 := by simpa [Act.eval] using hx1
  unfold Oper.wp
  simp [execOp, ho, resolve, invoke, go_sem]
  rw [h1', hent, Oper.upon_enter]
  refine hc.mono ?_
  rintro e w' ⟨rfl, hr⟩
  exact h w' hr
end
theorem enter34 (v : Value) (w : World) : (callFunc 45 #[v]).run Tryz.prog w = .ok (.enter 45 #[v]) w := by kernel_rfl
def encZ (k : Int) (zs : List Int) : List Int := nums (hd k zs.length) ++ zs
def errE (k : Int) (n : Nat) : Int := if (kN k).toList.isEmpty = true then 20 else if 100000 < n then 11 else 0
theorem fits_err (k : Int) (n : Nat) (h : errE k n ≠ 0) : fitsV k n = .iface 45 (.int .i64 (errE k n)) := by
  unfold errE at h ⊢
  unfold fitsV
  by_cases h1 : (kN k).toList.isEmpty = true
  · rw [if_pos h1, if_pos h1]
  · rw [if_neg h1] at h
    rw [if_neg h1, if_neg h1]
    by_cases h2 : 100000 < n
    · rw [if_pos (by omega), if_pos h2]
    · rw [if_neg h2] at h; exact absurd rfl h
theorem fits_ok (k : Int) (n : Nat) (h : errE k n = 0) : fitsV k n = .nilIface ∧ n ≤ 100000 := by
  unfold errE at h
  unfold fitsV
  by_cases h1 : (kN k).toList.isEmpty = true
  · rw [if_pos h1] at h; cases h
  · rw [if_neg h1] at h
    rw [if_neg h1]
    by_cases h2 : 100000 < n
    · rw [if_pos h2] at h; cases h
    · exact ⟨by rw [if_neg (by omega)], by omega⟩
def PostE (k : Int) (zs : List Int) (w : World) (e : Ending) (w' : World) : Prop :=
  Below w.heap.size w w' ∧ ((errE k zs.length ≠ 0 ∧ e = .returned (.tuple #[.slice none 0 0, .iface 45 (.int .i64 (errE k zs.length))])) ∨
    (errE k zs.length = 0 ∧ ∃ g cap' : Nat, e = .returned (.tuple #[.slice (some ⟨g, 0, none⟩) (encZ k zs).length cap', .nilIface]) ∧ w.heap.size ≤ g ∧ g < w'.heap.size ∧ At w' g 0 (encZ k zs) ∧ (encZ k zs).length ≤ cap'))
set_option maxRecDepth 20000 in
set_option maxHeartbeats 2000000 in
theorem encode_any (k : Int) (a : Option Addr) (cap : Nat) (zs : List Int) (w : World) (ht : Tab w) (hl : zs.length ≤ 300000) (hS : Sl w a cap zs) :
    Calls Tryz.prog 33 #[.agg #[.int .i64 k, .slice a zs.length cap]] w (PostE k zs w) := by
  obtain ⟨n, HN⟩ : ∃ n, Hid (zs.length = n) := ⟨_, rfl⟩
  have HF : Hid (∀ w, Calls Tryz.prog 44 #[.agg #[.int .i64 k, .slice a n cap]] w fun e w' => e = .returned (fitsV k n) ∧ w' = w.alloc (.cells #[.int .i64 k, .slice a n cap] 28)) := fun w => fits_any k a n cap w
  by_cases he : errE k n = 0
  · obtain ⟨hfv, hn⟩ := fits_ok k n he
    rw [hfv] at HF
    obtain ⟨g0, HG0⟩ : ∃ g, Hid (w.heap.size = g) := ⟨_, rfl⟩
    obtain ⟨w1, HW1⟩ : ∃ w1, Hid ((w.alloc (.cells #[.int .i64 k, .slice a n cap] 28)).alloc (.cells #[.int .i64 k, .slice a n cap] 28) = w1) := ⟨_, rfl⟩
    have HB1 : Hid (Below g0 w w1) := by rw [← HW1.out, ← HG0.out]; exact ((Below.refl _ w).alloc (Nat.le_refl _) _).alloc (by simp) _
    have hg1 : g0 < w1.heap.size := by rw [← HW1.out, ← HG0.out]; simp; omega
    have hc0 : w1.cell? ⟨g0, 0, none⟩ = some (.int .i64 k) := by rw [← HW1.out, ← HG0.out]; simp
    have hc1 : w1.cell? ⟨g0, 1, none⟩ = some (.slice a n cap) := by rw [← HW1.out, ← HG0.out]; simp
    obtain ⟨S, HSS⟩ : ∃ S : ByteArray, Hid (S = ⟨(hd k n).toArray⟩) := ⟨_, rfl⟩
    obtain ⟨m, HM⟩ : ∃ m : Nat, Hid ((hd k n).length = m) := ⟨_, rfl⟩
    have hm14 : m ≤ 14 := by
      have := h0_len k n (by omega)
      rw [← HM.out, hd, List.length_append, List.length_singleton]
      omega
    have HH : Hid (∀ W, Below w1.heap.size w1 W → Calls Tryz.prog 45 #[.agg #[.int .i64 k, .slice a n cap]] W fun e w' => e = .returned (.string S) ∧ Below w1.heap.size w1 w') := fun W hW => by
      rw [HSS.out]
      refine (header_any k a n cap (by omega) W (ht.below (Below.trans (by rw [HG0.out]; exact HB1.out) (hW.mono (by rw [HG0.out]; omega))))).mono ?_
      rintro e w' ⟨rfl, hb⟩
      exact ⟨rfl, hW.trans (hb.mono hW.size)⟩
    have HCA : Hid (∀ w2, Below w1.heap.size w1 w2 → ∃ (c3 : Nat) (w3 : World) (g' cap' : Nat) (w4 : World), (convert 9 26 (.string S)).run Tryz.prog w2 = .ok (.slice (some ⟨w2.heap.size, 0, none⟩) m c3) w3 ∧
        (Builtin.append_ #[26, 26] 26 #[.slice (some ⟨w2.heap.size, 0, none⟩) m c3, .slice a n cap]).run Tryz.prog w3 = .ok (.slice (some ⟨g', 0, none⟩) (m + n : Nat) cap') w4 ∧ w3.cell? ⟨g0, 1, none⟩ = some (.slice a n cap) ∧
        Hid (Below g0 w w4 ∧ g0 ≤ g' ∧ g' < w4.heap.size ∧ At w4 g' 0 (encZ k zs) ∧ m + n ≤ cap')) := fun w2 h2 => by
      obtain ⟨c3, w3, hr3, hm3, hb3, hs3⟩ := conv_mk (hd k n) w2
      rw [HM.out, ← HSS.out] at hr3
      have hb23 : Below g0 w w2 := HB1.out.trans (h2.mono (by omega))
      have h2s := h2.size
      have hb03 : Below g0 w w3 := hb23.trans (hb3.mono (by omega))
      obtain ⟨g', cap', w4, hr4, hat, hcap, hlt, hg, hgr⟩ := app_mk w3 w2.heap.size c3 (nums (hd k n)) zs a cap hm3 (hS.below (by rw [HG0.out]; exact hb03)) (by rw [nums_len, HM.out]; omega)
      rw [nums_len, HM.out, HN.out] at hr4
      refine ⟨c3, w3, g', cap', w4, hr3, hr4, (hb3.cell (p := ⟨g0, 1, none⟩) (show g0 < w2.heap.size by omega)).trans ((h2.cell (p := ⟨g0, 1, none⟩) hg1).trans hc1), hb03.grown hgr (by omega) (fun q hq => by cases hq; omega), by omega, hlt, ?_, ?_⟩
      · unfold encZ; rw [HN.out]; exact hat
      · rw [nums_len, HM.out, HN.out] at hcap; exact hcap
    rw [HN.out]
    go_enter Tryz.func33, Tryz.ntmps33
    go_wp2_with (go_at_call 44; refine (HF.out _).mono ?_; rintro ev w' ⟨rfl, rfl⟩)
    rw [HW1.out, HG0.out]
    clear ht hS
    go_region_law (first
      | (refine step_call1 (by rfl) 45 10 28 (.agg #[.int .i64 k, .slice a n cap]) (.string S) (fun w' => Below w1.heap.size w1 w') (by rfl) (by rfl) enter34 (HH.out _ ⟨rfl, rfl, rfl, Nat.le_refl _, fun _ _ => rfl⟩) ?_; intro w2 hb2; have hc2 : w2.cell? ⟨g0, 1, none⟩ = some (.slice a n cap) := (hb2.cell (p := ⟨g0, 1, none⟩) hg1).trans hc1; obtain ⟨c3, w3, g', cap', w4, hr3, hr4, hc3, HE⟩ := HCA.out w2 hb2; clear hb2)
      | (refine step_conv (by rfl) 9 26 _ _ _ _ (by rfl) (by rfl) hr3 ?_)
      | (refine step_append (by rfl) _ _ 26 _ _ _ _ (by rfl) (by rfl) (by rfl) hr4 ?_))
    all_goals
      go_wp2
      go_ret2
      obtain ⟨e1, e2, e3, e4, e5⟩ := HE.out
      have hlen : (encZ k zs).length = m + n := by unfold encZ; rw [List.length_append, nums_len, HN.out, HM.out]
      refine ⟨by rw [HG0.out]; exact e1, .inr ⟨by rw [HN.out]; exact he, g', cap', ?_, by rw [HG0.out]; exact e2, e3, e4, by omega⟩⟩
      rw [hlen]
      rfl
  · have hfv := fits_err k n he
    rw [hfv] at HF
    rw [HN.out]
    obtain ⟨er, HER⟩ : ∃ er, Hid (er = errE k n) := ⟨_, rfl⟩
    rw [← HER.out] at HF
    have HB1 : Hid (Below w.heap.size w ((w.alloc (.cells #[.int .i64 k, .slice a n cap] 28)).alloc (.cells #[.int .i64 k, .slice a n cap] 28))) := ((Below.refl _ w).alloc (Nat.le_refl _) _).alloc (by simp) _
    go_enter Tryz.func33, Tryz.ntmps33
    go_wp2_with (go_at_call 44; refine (HF.out _).mono ?_; rintro ev w' ⟨rfl, rfl⟩)
    go_ret2
    refine ⟨HB1.out, .inl ⟨by rw [HN.out]; exact he, ?_⟩⟩
    rw [HN.out, ← HER.out]
    rfl
end Go.Proofs.YtikmbjfambjmaaaGreatDoor
namespace Go.Proofs.YtikmbjfambjmaaaGreatDoor
open Go.RowKit
set_option linter.unusedVariables false
set_option linter.unusedSimpArgs false
theorem nums_bytesOf (l : List Int) (h : IsB l) : nums (Lib.bytesOf l) = l := by
  unfold nums Lib.bytesOf
  rw [List.map_map]
  conv => rhs; rw [← List.map_id l]
  apply List.map_congr_left
  intro x hx
  have := h x hx
  simp only [Function.comp, id, UInt8.toNat_ofNat']
  omega
theorem bytesOf_nums (l : List UInt8) : Lib.bytesOf (nums l) = l := by
  unfold nums Lib.bytesOf
  rw [List.map_map]
  conv => rhs; rw [← List.map_id l]
  apply List.map_congr_left
  intro x hx
  simp
theorem Sl.bytesIn {w : World} {a : Option Addr} {cap : Nat} {l : List Int} (h : Sl w a cap l) : Lib.BytesIn w a l.length l := fun h0 => by
  obtain ⟨b, off, e1, _, e3⟩ := h.at_ h0
  exact ⟨b, off, e1, e3⟩
theorem Sl.take {w : World} {a : Option Addr} {cap : Nat} {l : List Int} (h : Sl w a cap l) (i : Nat) : Sl w a cap (l.take i) :=
  ⟨by have := h.capl; rw [List.length_take]; omega, fun h0 => by
    rw [List.length_take] at h0
    obtain ⟨b, off, e1, e2, e3⟩ := h.at_ (by omega)
    refine ⟨b, off, e1, e2, fun j hj => ?_⟩
    rw [List.length_take] at hj
    rw [e3 j (by omega)]
    simp [List.getD_eq_getElem?_getD, List.getElem?_take, show j < i by omega], h.nil⟩
theorem conv_str {w : World} {a : Option Addr} {cap : Nat} {l : List Int} (h : Sl w a cap l) : (convert 26 9 (.slice a l.length cap)).run Tryz.prog w = .ok (.string ⟨(Lib.bytesOf l).toArray⟩) w := by
  by_cases h0 : 0 < l.length
  · obtain ⟨b, off, rfl, _, e3⟩ := h.at_ h0
    have := run_convert_bytes_arg (P := Tryz.prog) w 26 5 Tryz.underlying26 Tryz.underlying5 b off l.length cap l rfl e3 9 Tryz.underlying9
    rw [this]
    congr 2
  · have hl : l = [] := List.length_eq_zero_iff.1 (by omega)
    subst hl
    rw [List.length_nil, run_convert_bytes_string (P := Tryz.prog) w 26 9 5 a 0 cap Tryz.underlying26 Tryz.underlying5 Tryz.underlying9]
    cases a with
    | none => simp [Conv.bytesToString, Lib.bytesOf]; rfl
    | some ad => simp [Conv.bytesToString, loadCells, loadCellsFrom, Lib.bytesOf]; rfl
def Mx (w : World) : Prop := ∃ m : Int, w.cell? ⟨1, 0, none⟩ = some (.int .i64 m)
theorem Mx.below {w w' : World} (h : Mx w) (hb : Below w.heap.size w w') : Mx w' := by
  obtain ⟨m, hm⟩ := h
  refine ⟨m, (hb.cell (p := ⟨1, 0, none⟩) ?_).trans hm⟩
  rcases Nat.lt_or_ge 1 w.heap.size with h' | h'
  · exact h'
  · simp [World.cell?, Array.getElem?_eq_none h'] at hm
theorem scut_any (s sep : List UInt8) (w : World) (hs : s.length ≤ 1000000) (hm : Mx w) :
    Calls Tryz.prog 50 #[.string ⟨s.toArray⟩, .string ⟨sep.toArray⟩] w fun e w' => e = .returned (.tuple #[.string ⟨(Lib.cut s sep).1.toArray⟩, .string ⟨(Lib.cut s sep).2.1.toArray⟩, .bool (Lib.cut s sep).2.2]) ∧ ∃ q, w' = w.drewN q := by
  obtain ⟨m, hm⟩ := hm
  exact Any.strings_Cut Tryz.lays145 ⟨s.toArray⟩ ⟨sep.toArray⟩ m w (by simp [ByteArray.size]; omega) hm
theorem Mk.sl {w : World} {g cap : Nat} {xs : List Int} (h : Mk w g cap xs) : Sl w (some ⟨g, 0, none⟩) cap xs := ⟨h.capl, fun _ => ⟨g, 0, rfl, h.lt, h.at_⟩, fun e => by cases e⟩
end Go.Proofs.YtikmbjfambjmaaaGreatDoor
namespace Go.Proofs.YtikmbjfambjmaaaGreatDoor
open Go.RowKit
set_option linter.unusedVariables false
theorem u5_cells {w : World} {g : Nat} {a b c d e : Int} {t : TypeId} {fr : Nat × Nat} (h : w.heap[g]? = some (.cells #[.int .u32 a, .int .u32 b, .int .u32 c, .int .u32 d, .int .u32 e] t fr)) :
    w.cell? ⟨g, 0, none⟩ = some (.int .u32 a) ∧ w.cell? ⟨g, 1, none⟩ = some (.int .u32 b) ∧ w.cell? ⟨g, 2, none⟩ = some (.int .u32 c) ∧ w.cell? ⟨g, 3, none⟩ = some (.int .u32 d) ∧ w.cell? ⟨g, 4, none⟩ = some (.int .u32 e) := by
  refine ⟨?_, ?_, ?_, ?_, ?_⟩ <;> (rw [cell_of_row w g _ _ t fr h]; rfl)
theorem below_drewN' (B : Nat) {w0 w : World} (n : Nat) (h : Below B w0 w) : Below B w0 (w.drewN n) := h.trans ⟨rfl, rfl, rfl, Nat.le_refl _, fun _ _ => rfl⟩
theorem setCells5 (w : World) (g : Nat) (t : TypeId) (z0 z1 z2 z3 z4 v0 v1 v2 v3 v4 : Value) (h : w.heap[g]? = some (.cells #[z0, z1, z2, z3, z4] t (0, 0))) :
    (w.setCells g 0 [v0, v1, v2, v3, v4]).heap[g]? = some (.cells #[v0, v1, v2, v3, v4] t (0, 0)) := by
  have h1 := heap_setCell_same w g 0 _ _ v0 h
  have h2 := heap_setCell_same _ g 1 _ _ v1 h1
  have h3 := heap_setCell_same _ g 2 _ _ v2 h2
  have h4 := heap_setCell_same _ g 3 _ _ v3 h3
  exact heap_setCell_same _ g 4 _ _ v4 h4
theorem shift5 (w : World) (g nq nn : Nat) (t : TypeId) (a b c d e y z : Value) (h : w.heap[g]? = some (.cells #[a, b, c, d, e] t (0, 0))) :
    ((((((((w.drewN nq).setCell ⟨g, 4, none⟩ d).setCell ⟨g, 3, none⟩ c).drewN nn).setCell ⟨g, 2, none⟩ z).setCell ⟨g, 1, none⟩ a).setCell ⟨g, 0, none⟩ y)).heap[g]? = some (.cells #[y, a, z, c, d] t (0, 0)) := by
  have h1 := heap_setCell_same (w.drewN nq) g 4 _ _ d h
  have h2 := heap_setCell_same _ g 3 _ _ c h1
  have h3 := heap_setCell_same (((((w.drewN nq).setCell ⟨g, 4, none⟩ d).setCell ⟨g, 3, none⟩ c).drewN nn)) g 2 _ _ z h2
  have h4 := heap_setCell_same _ g 1 _ _ a h3
  exact heap_setCell_same _ g 0 _ _ y h4
theorem shift5_below {B : Nat} {w0 w : World} (g nq nn : Nat) (a c d y z : Value) (hg : B ≤ g) (h : Below B w0 w) :
    Below B w0 ((((((((w.drewN nq).setCell ⟨g, 4, none⟩ d).setCell ⟨g, 3, none⟩ c).drewN nn).setCell ⟨g, 2, none⟩ z).setCell ⟨g, 1, none⟩ a).setCell ⟨g, 0, none⟩ y)) := by
  have h1 := below_drewN' B nq h
  have h2 := h1.setCell (p := ⟨g, 4, none⟩) hg d
  have h3 := h2.setCell (p := ⟨g, 3, none⟩) hg c
  have h4 := below_drewN' B nn h3
  have h5 := h4.setCell (p := ⟨g, 2, none⟩) hg z
  have h6 := h5.setCell (p := ⟨g, 1, none⟩) hg a
  exact h6.setCell (p := ⟨g, 0, none⟩) hg y
def addAt (l m : List Int) (j : Nat) : List Int := (List.range 5).map fun i => if i < j then (l.getD i 0 + m.getD i 0) % 4294967296 else l.getD i 0
theorem addAt_len (l m : List Int) (j : Nat) : (addAt l m j).length = 5 := by simp [addAt]
theorem addAt_step (l m : List Int) (j : Nat) (h : j < 5) : addAt l m (j + 1) = (addAt l m j).set j ((l.getD j 0 + m.getD j 0) % 4294967296) := by
  apply List.ext_getElem (by simp [addAt])
  intro i h1 h2
  rw [List.getElem_set]
  simp only [addAt, List.getElem_map, List.getElem_range]
  by_cases e : j = i
  · subst e; rw [if_pos (by omega), if_pos rfl]
  · rw [if_neg e]
    by_cases h : i < j
    · rw [if_pos (by omega), if_pos h]
    · rw [if_neg (by omega), if_neg h]
theorem addAt_get (l m : List Int) (j : Nat) (h : j < 5) : (addAt l m j).getD j 0 = l.getD j 0 := by simp [addAt, h]
theorem addAt_five (s t : S5) : addAt s.l t.l 5 = (plus s t).l := rfl
theorem l_isW (s : S5) (h : s.ok) : IsW s.l := by
  obtain ⟨h1, h2, h3, h4, h5⟩ := h
  intro x hx
  simp only [S5.l, List.mem_cons, List.not_mem_nil, or_false] at hx
  rcases hx with rfl | rfl | rfl | rfl | rfl <;> assumption
set_option maxRecDepth 20000 in
set_option maxHeartbeats 2000000 in
theorem block_any (s : S5) (b off cap : Nat) (zs : List Int) (w : World) (hs : s.ok) (hl : zs.length = 64) (hz : IsB zs) (hat : At w b off zs) (hbw : b < w.heap.size) :
    Calls Tryz.prog 20 #[.agg (row .u32 s.l).toArray, .slice (some ⟨b, off, none⟩) 64 cap] w fun e w' => e = .returned (.agg (row .u32 (comp s zs).l).toArray) ∧ Below w.heap.size w w' := by
  obtain ⟨a0, b0, c0, d0, e0⟩ := s
  have HS : Hid (S5.ok ⟨a0, b0, c0, d0, e0⟩) := hs
  clear hs
  simp only [S5.l, row, List.map_cons, List.map_nil]
  obtain ⟨zr, HZ⟩ : ∃ zr : Array Value, Hid (zr = (row .u32 z80).toArray) := ⟨_, rfl⟩
  have hzv := zero47
  rw [← HZ.out] at hzv
  have H3 : Hid (_ ∧ _) := heap_alloc3 w (.cells #[.int .u32 a0, .int .u32 b0, .int .u32 c0, .int .u32 d0, .int .u32 e0] 70) (.cells #[.int .u32 0, .int .u32 0, .int .u32 0, .int .u32 0, .int .u32 0] 70) (.cells zr 104)
  have HB0 : Hid (Below w.heap.size w (((w.alloc (.cells #[.int .u32 a0, .int .u32 b0, .int .u32 c0, .int .u32 d0, .int .u32 e0] 70)).alloc (.cells #[.int .u32 0, .int .u32 0, .int .u32 0, .int .u32 0, .int .u32 0] 70)).alloc (.cells zr 104))) := (((Below.refl _ w).alloc (Nat.le_refl _) _).alloc (by simp) _).alloc (by simp; omega) _
  go_enter Tryz.func20, Tryz.ntmps20
  go_wp2
  go_loopg [6] 16 (fun k i wr => ∃ j : Nat, j ≤ 16 ∧ k = 16 - j ∧ i = .int .i64 j ∧ Hid (wr.heap[w.heap.size + 1 + 1]? = some (.cells (row .u32 (rAt zs j)).toArray 104 (0, 0))) ∧ Hid (wr.heap[w.heap.size + 1]? = some (.cells #[.int .u32 0, .int .u32 0, .int .u32 0, .int .u32 0, .int .u32 0] 70 (0, 0))) ∧ Hid (wr.heap[w.heap.size]? = some (.cells #[.int .u32 a0, .int .u32 b0, .int .u32 c0, .int .u32 d0, .int .u32 e0] 70 (0, 0))) ∧ Hid (Below w.heap.size w wr) ∧ Hid (w.heap.size + 1 + 1 < wr.heap.size))
  case atStart => exact ⟨0, by omega, rfl, rfl, hid (by rw [rAt_zero, H3.out.2, HZ.out]; rfl), H3.out.1.2, H3.out.1.1, HB0, hid (by simp)⟩
  case round =>
    obtain ⟨j, hj, hk, rfl, H2, H1, H0, HB, HZ1⟩ := hrel
    by_cases hlt : j < 16
    · have hat' : At wr b off zs := fun i hi => (HB.out.cell (p := ⟨b, off + i, none⟩) hbw).trans (hat i hi)
      have hnum := fun w1 (h : At w1 b off zs) => number_any b off cap j zs w1 hl hz hlt h
      rw [← val4] at hnum
      have hc : wr.cell? ⟨w.heap.size + 1 + 1, j, none⟩ = some (.int .u32 ((rAt zs j).getD j 0)) := row_cell H2.out j (by rw [rAt_len]; omega)
      have hfz := frozen_of_row wr (w.heap.size + 1 + 1) j _ 104 H2.out
      go_wp2_with (go_at_call 31; refine (hnum _ hat').mono ?_; rintro e w' ⟨rfl, nn, rfl⟩)
      go_roundg (16 - (j + 1))
      case measure => omega
      case rel =>
        refine ⟨j + 1, by omega, rfl, by go_num, hid ?_, hid ?_, hid ?_, (below_drewN' _ _ HB.out).setCell (by simp <;> omega) _, hid (by have := HZ1.out; simpa [World.setCell] using this)⟩
        · rw [heap_setCell_same (wr.drewN nn) _ _ _ _ _ H2.out, rAt_step zs j hlt, row_set]
        · rw [heap_setCell_other (wr.drewN nn) _ _ _ (by simp)]; exact H1.out
        · rw [heap_setCell_other (wr.drewN nn) _ _ _ (by simp <;> omega)]; exact H0.out
    · obtain rfl : j = 16 := by omega
      rw [rAt_16] at H2
      go_wp2
      go_loopg [7] 64 (fun k i wr => ∃ j : Nat, j ≤ 64 ∧ k = 64 - j ∧ i = .int .i64 (16 + j : Nat) ∧ Hid (wr.heap[w.heap.size + 1 + 1]? = some (.cells (row .u32 (spAt (wAt zs 64) j)).toArray 104 (0, 0))) ∧ Hid (wr.heap[w.heap.size + 1]? = some (.cells #[.int .u32 0, .int .u32 0, .int .u32 0, .int .u32 0, .int .u32 0] 70 (0, 0))) ∧ Hid (wr.heap[w.heap.size]? = some (.cells #[.int .u32 a0, .int .u32 b0, .int .u32 c0, .int .u32 d0, .int .u32 e0] 70 (0, 0))) ∧ Hid (Below w.heap.size w wr) ∧ Hid (w.heap.size + 1 + 1 < wr.heap.size))
      case atStart => exact ⟨0, by omega, rfl, rfl, H2, H1, H0, HB, HZ1⟩
      case round =>
        clear H2 H1 H0 HB HZ1
        obtain ⟨j, hj, hk, rfl, H2, H1, H0, HB, HZ1⟩ := hrel
        obtain ⟨v, HV⟩ : ∃ v, Hid (v = spAt (wAt zs 64) j) := ⟨_, rfl⟩
        rw [← HV.out] at H2
        have hvl : v.length = 80 := by rw [HV.out, spAt_len, wAt_len]
        have hvw : IsW v := by rw [HV.out]; exact spAt_isW _ (wAt_isW zs hz 64) _
        obtain ⟨q, HQ⟩ : ∃ q, Hid (q = 16 + j) := ⟨_, rfl⟩
        rw [← HQ.out]
        have hq : 16 ≤ q ∧ q ≤ 80 := by have := HQ.out; omega
        by_cases hlt : q < 80
        · obtain ⟨x1, G1⟩ : ∃ x, Hid (x = v.getD (q - 3) 0) := ⟨_, rfl⟩
          obtain ⟨x2, G2⟩ : ∃ x, Hid (x = v.getD (q - 8) 0) := ⟨_, rfl⟩
          obtain ⟨x3, G3⟩ : ∃ x, Hid (x = v.getD (q - 14) 0) := ⟨_, rfl⟩
          obtain ⟨x4, G4⟩ : ∃ x, Hid (x = v.getD (q - 16) 0) := ⟨_, rfl⟩
          obtain ⟨q1, Q1⟩ : ∃ r, Hid (r = q - 3) := ⟨_, rfl⟩
          have e1 : IntKind.i64.wrap ((q : Int) - 3) = (q1 : Int) := by rw [show (q : Int) - 3 = (q1 : Int) from by have := Q1.out; omega]; exact wrap_i64 _ (by have := Q1.out; omega)
          have b1 : q1 < 80 := by have := Q1.out; omega
          have bi1 : (q1 : Int) < 80 := by omega
          have bz1 : (0 : Int) ≤ q1 := by omega
          have c1 : wr.cell? ⟨w.heap.size + 1 + 1, q1, none⟩ = some (.int .u32 x1) := by rw [G1.out, Q1.out]; exact row_cell H2.out _ (by omega)
          obtain ⟨q2, Q2⟩ : ∃ r, Hid (r = q - 8) := ⟨_, rfl⟩
          have e2 : IntKind.i64.wrap ((q : Int) - 8) = (q2 : Int) := by rw [show (q : Int) - 8 = (q2 : Int) from by have := Q2.out; omega]; exact wrap_i64 _ (by have := Q2.out; omega)
          have b2 : q2 < 80 := by have := Q2.out; omega
          have bi2 : (q2 : Int) < 80 := by omega
          have bz2 : (0 : Int) ≤ q2 := by omega
          have c2 : wr.cell? ⟨w.heap.size + 1 + 1, q2, none⟩ = some (.int .u32 x2) := by rw [G2.out, Q2.out]; exact row_cell H2.out _ (by omega)
          obtain ⟨q3, Q3⟩ : ∃ r, Hid (r = q - 14) := ⟨_, rfl⟩
          have e3 : IntKind.i64.wrap ((q : Int) - 14) = (q3 : Int) := by rw [show (q : Int) - 14 = (q3 : Int) from by have := Q3.out; omega]; exact wrap_i64 _ (by have := Q3.out; omega)
          have b3 : q3 < 80 := by have := Q3.out; omega
          have bi3 : (q3 : Int) < 80 := by omega
          have bz3 : (0 : Int) ≤ q3 := by omega
          have c3 : wr.cell? ⟨w.heap.size + 1 + 1, q3, none⟩ = some (.int .u32 x3) := by rw [G3.out, Q3.out]; exact row_cell H2.out _ (by omega)
          obtain ⟨q4, Q4⟩ : ∃ r, Hid (r = q - 16) := ⟨_, rfl⟩
          have e4 : IntKind.i64.wrap ((q : Int) - 16) = (q4 : Int) := by rw [show (q : Int) - 16 = (q4 : Int) from by have := Q4.out; omega]; exact wrap_i64 _ (by have := Q4.out; omega)
          have b4 : q4 < 80 := by have := Q4.out; omega
          have bi4 : (q4 : Int) < 80 := by omega
          have bz4 : (0 : Int) ≤ q4 := by omega
          have c4 : wr.cell? ⟨w.heap.size + 1 + 1, q4, none⟩ = some (.int .u32 x4) := by rw [G4.out, Q4.out]; exact row_cell H2.out _ (by omega)
          have c5 : wr.cell? ⟨w.heap.size + 1 + 1, q, none⟩ = some (.int .u32 (v.getD q 0)) := row_cell H2.out _ (by omega)
          have bi5 : (q : Int) < 80 := by omega
          have bz5 : (0 : Int) ≤ q := by omega
          have f5 := frozen_of_row wr (w.heap.size + 1 + 1) q _ 104 H2.out
          obtain ⟨n, HN⟩ : ∃ n, Hid (n = nx v q) := ⟨_, rfl⟩
          have hn : bits .xor .u32 (bits .xor .u32 (bits .xor .u32 x1 x2) x3) x4 = n := by rw [HN.out, G1.out, G2.out, G3.out, G4.out]; rfl
          have hnb : U n := by rw [HN.out]; exact nx_bd v q
          go_wp2
          go_quiet (fail)
          go_wp2_with (go_at_call 32; refine (tn1 n _ hnb).mono ?_; rintro e w' ⟨rfl, nn, rfl⟩)
          go_roundg (64 - (j + 1))
          case measure => have := HQ.out; omega
          case rel =>
            refine ⟨j + 1, by have := HQ.out; omega, rfl, by have := HQ.out; go_num, hid ?_, hid ?_, hid ?_, (below_drewN' _ _ HB.out).setCell (by simp <;> omega) _, hid (by have := HZ1.out; simpa [World.setCell] using this)⟩
            · rw [heap_setCell_same (wr.drewN (nq + nn)) _ _ _ _ _ H2.out, spAt, ← HV.out, ← HQ.out, ← HN.out, row_set]
            · rw [heap_setCell_other (wr.drewN (nq + nn)) _ _ _ (by simp)]; exact H1.out
            · rw [heap_setCell_other (wr.drewN (nq + nn)) _ _ _ (by simp <;> omega)]; exact H0.out
        · obtain rfl : q = 80 := by omega
          have hj64 : j = 64 := by have := HQ.out; omega
          subst hj64
          have HVS : Hid (v = spread zs) := HV.out
          obtain ⟨wb, rfl⟩ : ∃ wb, wb = wr := ⟨_, rfl⟩
          obtain ⟨r0, r1, r2, r3, r4⟩ := u5_cells H0.out
          have hzb : w.heap.size + 1 + 1 < wb.heap.size := HZ1.out
          have HT : Hid ((wb.alloc (.cells #[.int .u32 0, .int .u32 0, .int .u32 0, .int .u32 0, .int .u32 0] 70)).there wb.heap.size 0 5) := there_cells (heap_alloc_new wb _) rfl
          obtain ⟨w5, HW5⟩ : ∃ w5, Hid (w5 = (wb.alloc (.cells #[.int .u32 0, .int .u32 0, .int .u32 0, .int .u32 0, .int .u32 0] 70)).setCells wb.heap.size 0 (#[.int .u32 a0, .int .u32 b0, .int .u32 c0, .int .u32 d0, .int .u32 e0] : Array Value).toList) := ⟨_, rfl⟩
          have H9 : Hid (w5.heap[wb.heap.size]? = some (.cells #[.int .u32 a0, .int .u32 b0, .int .u32 c0, .int .u32 d0, .int .u32 e0] 70 (0, 0))) := hid (by rw [HW5.out]; exact setCells5 _ _ _ _ _ _ _ _ _ _ _ _ _ (heap_alloc_new wb _))
          have HX5 : Hid (Below wb.heap.size wb w5) := hid (by rw [HW5.out]; exact below_setCells (Nat.le_refl _) _ _ _ _ ((Below.refl _ _).alloc (Nat.le_refl _) _))
          have J2 : Hid (w5.heap[w.heap.size + 1 + 1]? = some (.cells (row .u32 v).toArray 104 (0, 0))) := (HX5.out.block _ (by omega)).trans H2.out
          have J1 : Hid (w5.heap[w.heap.size + 1]? = some (.cells #[.int .u32 0, .int .u32 0, .int .u32 0, .int .u32 0, .int .u32 0] 70 (0, 0))) := (HX5.out.block _ (by omega)).trans H1.out
          have J0 : Hid (w5.heap[w.heap.size]? = some (.cells #[.int .u32 a0, .int .u32 b0, .int .u32 c0, .int .u32 d0, .int .u32 e0] 70 (0, 0))) := (HX5.out.block _ (by omega)).trans H0.out
          have HB5 : Hid (Below w.heap.size w w5) := HB.out.trans (HX5.out.mono (by omega))
          go_wp2_with (refine wpList_store_mid rfl 70 _ _ rfl wb.heap.size 0 _ rfl rfl HT.out Tryz.size70 (by simp [Value.oneCell']) ?_; rw [← HW5.out])
          clear r0 r1 r2 r3 r4
          go_loopg [10] 80 (fun k i wr => ∃ (n : Nat) (s : S5), n ≤ 80 ∧ k = 80 - n ∧ i = .int .i64 n ∧ Hid (s = rds v ⟨a0, b0, c0, d0, e0⟩ n) ∧ Hid (wr.heap[wb.heap.size]? = some (.cells #[.int .u32 s.a, .int .u32 s.b, .int .u32 s.c, .int .u32 s.d, .int .u32 s.e] 70 (0, 0))) ∧ Hid (Below wb.heap.size w5 wr))
          case atStart => exact ⟨0, ⟨a0, b0, c0, d0, e0⟩, by omega, rfl, rfl, rfl, H9, Below.refl _ _⟩
          case round =>
            obtain ⟨n, ⟨a, b, c, d, e⟩, hn, hk2, rfl, HSt, HR, HBr⟩ := hrel
            obtain ⟨ha, hb, hc, hd, he⟩ : S5.ok ⟨a, b, c, d, e⟩ := by rw [HSt.out]; exact rds_ok v _ HS.out _
            obtain ⟨r0, r1, r2, r3, r4⟩ := u5_cells HR.out
            have f0 := frozen_of_row wr wb.heap.size 0 _ 70 HR.out
            have f1 := frozen_of_row wr wb.heap.size 1 _ 70 HR.out
            have f2 := frozen_of_row wr wb.heap.size 2 _ 70 HR.out
            have f3 := frozen_of_row wr wb.heap.size 3 _ 70 HR.out
            have f4 := frozen_of_row wr wb.heap.size 4 _ 70 HR.out
            by_cases hn80 : n < 80
            · obtain ⟨x, HX⟩ : ∃ x, Hid (x = v.getD n 0) := ⟨_, rfl⟩
              have hx : U x := by rw [HX.out]; exact hvw.at _
              have hcl : wr.cell? ⟨w.heap.size + 1 + 1, n, none⟩ = some (.int .u32 x) := by
                rw [HX.out]; exact (HBr.out.cell (p := ⟨w.heap.size + 1 + 1, n, none⟩) (by omega)).trans (row_cell J2.out n (by omega))
              obtain ⟨fv, HF⟩ : ∃ fv, Hid (fv = fi n b c d) := ⟨_, rfl⟩
              obtain ⟨kq, HKQ⟩ : ∃ kq, Hid (kq = ki n) := ⟨_, rfl⟩
              obtain ⟨t5, HT5⟩ : ∃ t, Hid (t = turn5 a) := ⟨_, rfl⟩
              have ht5 : U t5 := by rw [HT5.out]; exact turn5_bd a
              have hr5 := fun w => tn5 a w ha
              rw [← HT5.out] at hr5
              have hr30 := fun w => tn30 b w hb
              obtain ⟨ha1, ha2⟩ := ha
              obtain ⟨hb1, hb2⟩ := hb
              obtain ⟨hc1, hc2⟩ := hc
              obtain ⟨hd1, hd2⟩ := hd
              obtain ⟨he1, he2⟩ := he
              obtain ⟨hx1, hx2⟩ := hx
              obtain ⟨ht1, ht2⟩ := ht5
              have hsg : IntKind.u32.signed = false := rfl
              have hmx : IntKind.u32.max = 4294967295 := rfl
              rcases (by omega : n < 20 ∨ (20 ≤ n ∧ n < 40) ∨ (40 ≤ n ∧ n < 60) ∨ 60 ≤ n) with hc' | ⟨hc', hc''⟩ | ⟨hc', hc''⟩ | hc'
              · have hfv : bits .or .u32 (bits .and .u32 b c) (bits .and .u32 (bits .xor .u32 4294967295 b) d) = fv := by rw [HF.out, fi, if_pos (by omega)]; rfl
                have hkq : kq = 1518500249 := by rw [HKQ.out, ki, if_pos (by omega)]
                have hfb : U fv := by rw [HF.out]; exact fi_bd _ _ _ _
                obtain ⟨hf1, hf2⟩ := hfb
                go_wp2
                go_quiet ((go_at_call 32; exact Calls.quiet_of (hr5 _)))
                go_wp2_with (go_at_call 32; refine (hr30 _).mono ?_; rintro e w' ⟨rfl, nn, rfl⟩)
                go_roundg (80 - (n + 1))
                case measure => omega
                case rel =>
                  refine ⟨n + 1, rd v n ⟨a, b, c, d, e⟩, by omega, rfl, by go_num, hid (by rw [HSt.out]; rfl), hid ?_, shift5_below _ _ _ _ _ _ _ _ (Nat.le_refl _) HBr.out⟩
                  show _ = some (Obj.cells #[Value.int .u32 ((turn5 a + fi n b c d + e + ki n + v.getD n 0) % 4294967296), .int .u32 a, .int .u32 (turn30 b), .int .u32 c, .int .u32 d] 70 (0, 0))
                  rw [← HT5.out, ← HF.out, ← HX.out, ← HKQ.out, hkq]
                  exact shift5 wr wb.heap.size nq nn 70 _ _ _ _ _ _ _ HR.out
              · have hfv : bits .xor .u32 (bits .xor .u32 b c) d = fv := by rw [HF.out, fi, if_neg (by omega), if_pos (by omega)]; rfl
                have hkq : kq = 1859775393 := by rw [HKQ.out, ki, if_neg (by omega), if_pos (by omega)]
                have hfb : U fv := by rw [HF.out]; exact fi_bd _ _ _ _
                obtain ⟨hf1, hf2⟩ := hfb
                go_wp2
                go_quiet ((go_at_call 32; exact Calls.quiet_of (hr5 _)))
                go_wp2_with (go_at_call 32; refine (hr30 _).mono ?_; rintro e w' ⟨rfl, nn, rfl⟩)
                go_roundg (80 - (n + 1))
                case measure => omega
                case rel =>
                  refine ⟨n + 1, rd v n ⟨a, b, c, d, e⟩, by omega, rfl, by go_num, hid (by rw [HSt.out]; rfl), hid ?_, shift5_below _ _ _ _ _ _ _ _ (Nat.le_refl _) HBr.out⟩
                  show _ = some (Obj.cells #[Value.int .u32 ((turn5 a + fi n b c d + e + ki n + v.getD n 0) % 4294967296), .int .u32 a, .int .u32 (turn30 b), .int .u32 c, .int .u32 d] 70 (0, 0))
                  rw [← HT5.out, ← HF.out, ← HX.out, ← HKQ.out, hkq]
                  exact shift5 wr wb.heap.size nq nn 70 _ _ _ _ _ _ _ HR.out
              · have hfv : bits .or .u32 (bits .or .u32 (bits .and .u32 b c) (bits .and .u32 b d)) (bits .and .u32 c d) = fv := by rw [HF.out, fi, if_neg (by omega), if_neg (by omega), if_pos (by omega)]; rfl
                have hkq : kq = 2400959708 := by rw [HKQ.out, ki, if_neg (by omega), if_neg (by omega), if_pos (by omega)]
                have hfb : U fv := by rw [HF.out]; exact fi_bd _ _ _ _
                obtain ⟨hf1, hf2⟩ := hfb
                go_wp2
                go_quiet ((go_at_call 32; exact Calls.quiet_of (hr5 _)))
                go_wp2_with (go_at_call 32; refine (hr30 _).mono ?_; rintro e w' ⟨rfl, nn, rfl⟩)
                go_roundg (80 - (n + 1))
                case measure => omega
                case rel =>
                  refine ⟨n + 1, rd v n ⟨a, b, c, d, e⟩, by omega, rfl, by go_num, hid (by rw [HSt.out]; rfl), hid ?_, shift5_below _ _ _ _ _ _ _ _ (Nat.le_refl _) HBr.out⟩
                  show _ = some (Obj.cells #[Value.int .u32 ((turn5 a + fi n b c d + e + ki n + v.getD n 0) % 4294967296), .int .u32 a, .int .u32 (turn30 b), .int .u32 c, .int .u32 d] 70 (0, 0))
                  rw [← HT5.out, ← HF.out, ← HX.out, ← HKQ.out, hkq]
                  exact shift5 wr wb.heap.size nq nn 70 _ _ _ _ _ _ _ HR.out
              · have hfv : bits .xor .u32 (bits .xor .u32 b c) d = fv := by rw [HF.out, fi, if_neg (by omega), if_neg (by omega), if_neg (by omega)]; rfl
                have hkq : kq = 3395469782 := by rw [HKQ.out, ki, if_neg (by omega), if_neg (by omega), if_neg (by omega)]
                have hfb : U fv := by rw [HF.out]; exact fi_bd _ _ _ _
                obtain ⟨hf1, hf2⟩ := hfb
                go_wp2
                go_quiet ((go_at_call 32; exact Calls.quiet_of (hr5 _)))
                go_wp2_with (go_at_call 32; refine (hr30 _).mono ?_; rintro e w' ⟨rfl, nn, rfl⟩)
                go_roundg (80 - (n + 1))
                case measure => omega
                case rel =>
                  refine ⟨n + 1, rd v n ⟨a, b, c, d, e⟩, by omega, rfl, by go_num, hid (by rw [HSt.out]; rfl), hid ?_, shift5_below _ _ _ _ _ _ _ _ (Nat.le_refl _) HBr.out⟩
                  show _ = some (Obj.cells #[Value.int .u32 ((turn5 a + fi n b c d + e + ki n + v.getD n 0) % 4294967296), .int .u32 a, .int .u32 (turn30 b), .int .u32 c, .int .u32 d] 70 (0, 0))
                  rw [← HT5.out, ← HF.out, ← HX.out, ← HKQ.out, hkq]
                  exact shift5 wr wb.heap.size nq nn 70 _ _ _ _ _ _ _ HR.out
            · obtain rfl : n = 80 := by omega
              have HFin : Hid (comp ⟨a0, b0, c0, d0, e0⟩ zs = plus ⟨a0, b0, c0, d0, e0⟩ ⟨a, b, c, d, e⟩) := hid (by unfold comp; rw [← HVS.out, ← HSt.out])
              have M0 : Hid (wr.heap[w.heap.size]? = some (.cells (row .u32 (addAt (S5.l ⟨a0, b0, c0, d0, e0⟩) (S5.l ⟨a, b, c, d, e⟩) 0)).toArray 70 (0, 0))) := (HBr.out.block _ (by omega)).trans J0.out
              have M1 : Hid (wr.heap[w.heap.size + 1]? = some (.cells #[.int .u32 0, .int .u32 0, .int .u32 0, .int .u32 0, .int .u32 0] 70 (0, 0))) := (HBr.out.block _ (by omega)).trans J1.out
              have M2 : Hid (wr.heap[wb.heap.size]? = some (.cells (row .u32 (S5.l ⟨a, b, c, d, e⟩)).toArray 70 (0, 0))) := HR.out
              have MB : Hid (Below w.heap.size w wr) := HB5.out.trans (HBr.out.mono (by omega))
              have hlw : IsW (S5.l ⟨a0, b0, c0, d0, e0⟩) := l_isW _ HS.out
              have hmw : IsW (S5.l ⟨a, b, c, d, e⟩) := l_isW _ (by rw [HSt.out]; exact rds_ok v _ HS.out _)
              obtain ⟨hl5, HL5⟩ : ∃ l, Hid (l = S5.l ⟨a0, b0, c0, d0, e0⟩) := ⟨_, rfl⟩
              obtain ⟨vl5, VL5⟩ : ∃ l, Hid (l = S5.l ⟨a, b, c, d, e⟩) := ⟨_, rfl⟩
              rw [← HL5.out] at M0 hlw
              rw [← VL5.out] at M0 M2 hmw
              have hvl5 : vl5.length = 5 := by rw [VL5.out]; rfl
              clear r0 r1 r2 r3 r4 f0 f1 f2 f3 f4
              go_wp2
              go_loopg [14] 5 (fun k i wr => ∃ j : Nat, j ≤ 5 ∧ k = 5 - j ∧ i = .int .i64 j ∧ Hid (wr.heap[w.heap.size]? = some (.cells (row .u32 (addAt hl5 vl5 j)).toArray 70 (0, 0))) ∧ Hid (wr.heap[w.heap.size + 1]? = some (.cells #[.int .u32 0, .int .u32 0, .int .u32 0, .int .u32 0, .int .u32 0] 70 (0, 0))) ∧ Hid (wr.heap[wb.heap.size]? = some (.cells (row .u32 vl5).toArray 70 (0, 0))) ∧ Hid (Below w.heap.size w wr))
              case atStart => exact ⟨0, by omega, rfl, rfl, M0, M1, M2, MB⟩
              case round =>
                clear M0 M1 M2 MB
                obtain ⟨j, hj, hk, rfl, M0, M1, M2, MB⟩ := hrel
                by_cases hj5 : j < 5
                · obtain ⟨x, HX⟩ : ∃ x, Hid (x = hl5.getD j 0) := ⟨_, rfl⟩
                  obtain ⟨y, HY⟩ : ∃ y, Hid (y = vl5.getD j 0) := ⟨_, rfl⟩
                  have c1 : wr.cell? ⟨w.heap.size, j, none⟩ = some (.int .u32 x) := by rw [HX.out, ← addAt_get hl5 vl5 j hj5]; exact row_cell M0.out j (by rw [addAt_len]; exact hj5)
                  have c2 : wr.cell? ⟨wb.heap.size, j, none⟩ = some (.int .u32 y) := by rw [HY.out]; exact row_cell M2.out j (by omega)
                  have f1 := frozen_of_row wr w.heap.size j _ 70 M0.out
                  have hx : U x := by rw [HX.out]; exact hlw.at j
                  have hy : U y := by rw [HY.out]; exact hmw.at j
                  obtain ⟨hx1, hx2⟩ := hx
                  obtain ⟨hy1, hy2⟩ := hy
                  have bi : (j : Int) < 5 := by omega
                  have bz : (0 : Int) ≤ j := by omega
                  go_wp2
                  go_region
                  all_goals
                    go_wp2
                    go_roundg (5 - (j + 1))
                    case measure => omega
                    case rel =>
                      refine ⟨j + 1, by omega, rfl, by go_num, hid ?_, hid ?_, hid ?_, (MB.out.setCell (by simp) _).drew⟩
                      · rw [heap_drew, heap_setCell_same wr _ _ _ _ _ M0.out, addAt_step hl5 vl5 j hj5, ← HX.out, ← HY.out, row_set]
                      · rw [heap_drew, heap_setCell_other wr _ _ _ (by simp)]; exact M1.out
                      · rw [heap_drew, heap_setCell_other wr _ _ _ (by simp; omega)]; exact M2.out
                · obtain rfl : j = 5 := by omega
                  obtain ⟨fr, HFR⟩ : ∃ fr, Hid (fr = addAt hl5 vl5 5) := ⟨_, rfl⟩
                  rw [← HFR.out] at M0
                  have hfl : fr.length = 5 := by rw [HFR.out]; exact addAt_len _ _ _
                  have HE : Hid (fr = (comp ⟨a0, b0, c0, d0, e0⟩ zs).l) := hid (by rw [HFR.out, HL5.out, VL5.out, addAt_five, HFin.out])
                  have hi38 : (Tryz.prog.info? 70).map (·.size) = some (row .u32 fr).length := by rw [row_len, hfl]; exact Tryz.size70
                  have T1 : Hid (wr.there (w.heap.size + 1) 0 (row .u32 fr).toArray.size) := hid (by rw [row_size, hfl]; exact there_cells M1.out rfl)
                  have T2 : Hid ((Tryz.prog.info? 70).map (·.size) = some (row .u32 fr).toArray.size) := hid (by rw [row_size, hfl]; exact Tryz.size70)
                  have T3 : Hid ((row .u32 fr).toArray.all (·.oneCell') = true) := all_oneCell_toArray (row_one _ _)
                  have T4 : Hid (wr.there (w.heap.size + 1) 0 (row .u32 fr).length) := hid (by rw [row_len, hfl]; exact there_cells M1.out rfl)
                  go_wp2_with (first | refine wpList_load_mid rfl 70 _ rfl w.heap.size 0 rfl (row .u32 fr) _ (range_row M0.out) Tryz.underlying70 rfl hi38 ?_ | refine wpList_store_mid rfl 70 _ _ rfl (w.heap.size + 1) 0 (row .u32 fr).toArray rfl rfl T1.out T2.out T3.out ?_)
                  refine bodyPost_ret (v := .agg (row .u32 fr).toArray) (results_mid Tryz.results20 _ _ (w.heap.size + 1) _ _ rfl (World.rangeAt_setCells_same wr (w.heap.size + 1) 0 _ T4.out) Tryz.underlying70 rfl hi38) rfl ⟨?_, below_setCells (by omega) _ _ _ _ MB.out⟩
                  rw [HE.out]; rfl
end Go.Proofs.YtikmbjfambjmaaaGreatDoor
