/- Package object: 'Encode'. -/
import Derived.Test.YtbpdielmdhhdfaaGreatDoorMkA
import Derived.Test.YtbpdielmdhhdfaaGreatDoorStep
namespace Go.Proofs.YtbpdielmdhhdfaaGreatDoor
open Go.RowKit
set_option linter.unusedVariables false
set_option linter.unusedSimpArgs false
section
variable {P : Program} {ops : Array Oper} {o : Oper} {a : Act} {w : World} {K : Act → World → Prop} {Q : Exit → Act → World → Prop} {E : Prop}
theorem step_append (hg : o.guard = none) (s x : Operand) (t : TypeId) (sv xv v : Value) (w2 : World)
    (ho : o.op = .call { callee := .builtin .append, args := #[s, x], argTypes := #[t, t] }) (hs : a.eval s = sv) (hx : a.eval x = xv) (hr : (Builtin.append_ #[t, t] o.type #[sv, xv]).run P w = .ok v w2) (h : K (a.put o.dst v) w2) :
    if Region.wanted o (yielded ops a.tmps) = true then Oper.wp P o a w K Q else E := by
  have hw : Region.wanted o (yielded ops a.tmps) = true := by simp [Region.wanted, hg]
  rw [if_pos hw]
  unfold Oper.wp execOp
  simp only [ho, resolve, invoke, builtin, Sem.run_bind, Sem.run_pure, Result.andThen_ok, List.map_toArray, List.map_cons, List.map_nil, hs, hx, hr]
  exact h
theorem step_conv (hg : o.guard = none) (src dst : TypeId) (x : Operand) (xv v : Value) (w2 : World)
    (ho : o.op = .convert src dst x) (hx : a.eval x = xv) (hr : (convert src dst xv).run P w = .ok v w2) (h : K (a.put o.dst v) w2) :
    if Region.wanted o (yielded ops a.tmps) = true then Oper.wp P o a w K Q else E := by
  have hw : Region.wanted o (yielded ops a.tmps) = true := by simp [Region.wanted, hg]
  rw [if_pos hw]
  unfold Oper.wp execOp
  simp only [ho, Sem.run_bind, Sem.run_pure, Result.andThen_ok, hx, hr]
  exact h
theorem step_call1 (hg : o.guard = none) (f : FuncId) (s1 : Tmp) (t1 : TypeId) (v1 r : Value) (R : World → Prop)
    (ho : o.op = .call { callee := .value (.func f), args := #[.tmp s1], argTypes := #[t1] }) (hx1 : a.eval (.tmp s1) = v1) (hent : ∀ (v1 : Value) (w : World), (callFunc f #[v1]).run P w = .ok (.enter f #[v1]) w)
    (hc : Calls P f #[v1] w fun e w' => e = .returned r ∧ R w') (h : ∀ w', R w' → K (a.put o.dst r) w') :
    if Region.wanted o (yielded ops a.tmps) = true then Oper.wp P o a w K Q else E := by
  have hw : Region.wanted o (yielded ops a.tmps) = true := by simp [Region.wanted, hg]
  rw [if_pos hw]
  have h1' : a.tmps[s1]?.getD undef = v1 := by simpa [Act.eval] using hx1
  unfold Oper.wp
  simp [execOp, ho, resolve, invoke, go_sem]
  rw [h1', hent, Oper.upon_enter]
  refine hc.mono ?_
  rintro e w' ⟨rfl, hr⟩
  exact h w' hr
end
theorem enter34 (v : Value) (w : World) : (callFunc 34 #[v]).run Tryz.prog w = .ok (.enter 34 #[v]) w := by kernel_rfl
/-- 3.1: an object's bytes with their header; what is wrong with it. -/
def encZ (k : Int) (zs : List Int) : List Int := nums (hd k zs.length) ++ zs
def errE (k : Int) (n : Nat) : Int := if (kN k).toList.isEmpty = true then 20 else if 100000 < n then 11 else 0
theorem fits_err (k : Int) (n : Nat) (h : errE k n ≠ 0) : fitsV k n = .iface 35 (.int .i64 (errE k n)) := by
  unfold errE at h ⊢
  unfold fitsV
  by_cases h1 : (kN k).toList.isEmpty = true
  · rw [if_pos h1, if_pos h1]
  · rw [if_neg h1] at h
    rw [if_neg h1, if_neg h1]
    by_cases h2 : 100000 < n
    · rw [if_pos (by omega), if_pos h2]
    · rw [if_neg h2] at h; exact absurd rfl h
theorem fits_ok (k : Int) (n : Nat) (h : errE k n = 0) : fitsV k n = .nilIface ∧ n ≤ 100000 := by
  unfold errE at h
  unfold fitsV
  by_cases h1 : (kN k).toList.isEmpty = true
  · rw [if_pos h1] at h; cases h
  · rw [if_neg h1] at h
    rw [if_neg h1]
    by_cases h2 : 100000 < n
    · rw [if_pos h2] at h; cases h
    · exact ⟨by rw [if_neg (by omega)], by omega⟩
/-- What 'Encode' gives. -/
def PostE (k : Int) (zs : List Int) (w : World) (e : Ending) (w' : World) : Prop :=
  Below w.heap.size w w' ∧ ((errE k zs.length ≠ 0 ∧ e = .returned (.tuple #[.slice none 0 0, .iface 35 (.int .i64 (errE k zs.length))])) ∨
    (errE k zs.length = 0 ∧ ∃ g cap' : Nat, e = .returned (.tuple #[.slice (some ⟨g, 0, none⟩) (encZ k zs).length cap', .nilIface]) ∧ w.heap.size ≤ g ∧ g < w'.heap.size ∧ At w' g 0 (encZ k zs) ∧ (encZ k zs).length ≤ cap'))
set_option maxRecDepth 20000 in
set_option maxHeartbeats 2000000 in
theorem encode_any (k : Int) (a : Option Addr) (cap : Nat) (zs : List Int) (w : World) (ht : Tab w) (hl : zs.length ≤ 300000) (hS : Sl w a cap zs) :
    Calls Tryz.prog 9 #[.agg #[.int .i64 k, .slice a zs.length cap]] w (PostE k zs w) := by
  obtain ⟨n, HN⟩ : ∃ n, Hid (zs.length = n) := ⟨_, rfl⟩
  have HF : Hid (∀ w, Calls Tryz.prog 33 #[.agg #[.int .i64 k, .slice a n cap]] w fun e w' => e = .returned (fitsV k n) ∧ w' = w.alloc (.cells #[.int .i64 k, .slice a n cap] 25)) := fun w => fits_any k a n cap w
  by_cases he : errE k n = 0
  · obtain ⟨hfv, hn⟩ := fits_ok k n he
    rw [hfv] at HF
    obtain ⟨g0, HG0⟩ : ∃ g, Hid (w.heap.size = g) := ⟨_, rfl⟩
    obtain ⟨w1, HW1⟩ : ∃ w1, Hid ((w.alloc (.cells #[.int .i64 k, .slice a n cap] 25)).alloc (.cells #[.int .i64 k, .slice a n cap] 25) = w1) := ⟨_, rfl⟩
    have HB1 : Hid (Below g0 w w1) := by rw [← HW1.out, ← HG0.out]; exact ((Below.refl _ w).alloc (Nat.le_refl _) _).alloc (by simp) _
    have hg1 : g0 < w1.heap.size := by rw [← HW1.out, ← HG0.out]; simp; omega
    have hc0 : w1.cell? ⟨g0, 0, none⟩ = some (.int .i64 k) := by rw [← HW1.out, ← HG0.out]; simp
    have hc1 : w1.cell? ⟨g0, 1, none⟩ = some (.slice a n cap) := by rw [← HW1.out, ← HG0.out]; simp
    obtain ⟨S, HSS⟩ : ∃ S : ByteArray, Hid (S = ⟨(hd k n).toArray⟩) := ⟨_, rfl⟩
    obtain ⟨m, HM⟩ : ∃ m : Nat, Hid ((hd k n).length = m) := ⟨_, rfl⟩
    have hm14 : m ≤ 14 := by
      have := h0_len k n (by omega)
      rw [← HM.out, hd, List.length_append, List.length_singleton]
      omega
    have HH : Hid (∀ W, Below w1.heap.size w1 W → Calls Tryz.prog 34 #[.agg #[.int .i64 k, .slice a n cap]] W fun e w' => e = .returned (.string S) ∧ Below w1.heap.size w1 w') := fun W hW => by
      rw [HSS.out]
      refine (header_any k a n cap (by omega) W (ht.below (Below.trans (by rw [HG0.out]; exact HB1.out) (hW.mono (by rw [HG0.out]; omega))))).mono ?_
      rintro e w' ⟨rfl, hb⟩
      exact ⟨rfl, hW.trans (hb.mono hW.size)⟩
    have HCA : Hid (∀ w2, Below w1.heap.size w1 w2 → ∃ (c3 : Nat) (w3 : World) (g' cap' : Nat) (w4 : World), (convert 9 23 (.string S)).run Tryz.prog w2 = .ok (.slice (some ⟨w2.heap.size, 0, none⟩) m c3) w3 ∧
        (Builtin.append_ #[23, 23] 23 #[.slice (some ⟨w2.heap.size, 0, none⟩) m c3, .slice a n cap]).run Tryz.prog w3 = .ok (.slice (some ⟨g', 0, none⟩) (m + n : Nat) cap') w4 ∧ w3.cell? ⟨g0, 1, none⟩ = some (.slice a n cap) ∧
        Hid (Below g0 w w4 ∧ g0 ≤ g' ∧ g' < w4.heap.size ∧ At w4 g' 0 (encZ k zs) ∧ m + n ≤ cap')) := fun w2 h2 => by
      obtain ⟨c3, w3, hr3, hm3, hb3, hs3⟩ := conv_mk (hd k n) w2
      rw [HM.out, ← HSS.out] at hr3
      have hb23 : Below g0 w w2 := HB1.out.trans (h2.mono (by omega))
      have h2s := h2.size
      have hb03 : Below g0 w w3 := hb23.trans (hb3.mono (by omega))
      obtain ⟨g', cap', w4, hr4, hat, hcap, hlt, hg, hgr⟩ := app_mk w3 w2.heap.size c3 (nums (hd k n)) zs a cap hm3 (hS.below (by rw [HG0.out]; exact hb03)) (by rw [nums_len, HM.out]; omega)
      rw [nums_len, HM.out, HN.out] at hr4
      refine ⟨c3, w3, g', cap', w4, hr3, hr4, (hb3.cell (p := ⟨g0, 1, none⟩) (show g0 < w2.heap.size by omega)).trans ((h2.cell (p := ⟨g0, 1, none⟩) hg1).trans hc1), hb03.grown hgr (by omega) (fun q hq => by cases hq; omega), by omega, hlt, ?_, ?_⟩
      · unfold encZ; rw [HN.out]; exact hat
      · rw [nums_len, HM.out, HN.out] at hcap; exact hcap
    rw [HN.out]
    go_enter Tryz.func9, Tryz.ntmps9
    go_wp2_with (go_at_call 33; refine (HF.out _).mono ?_; rintro ev w' ⟨rfl, rfl⟩)
    rw [HW1.out, HG0.out]
    clear ht hS
    go_region_law (first
      | (refine step_call1 (by rfl) 34 10 25 (.agg #[.int .i64 k, .slice a n cap]) (.string S) (fun w' => Below w1.heap.size w1 w') (by rfl) (by rfl) enter34 (HH.out _ ⟨rfl, rfl, rfl, Nat.le_refl _, fun _ _ => rfl⟩) ?_; intro w2 hb2; have hc2 : w2.cell? ⟨g0, 1, none⟩ = some (.slice a n cap) := (hb2.cell (p := ⟨g0, 1, none⟩) hg1).trans hc1; obtain ⟨c3, w3, g', cap', w4, hr3, hr4, hc3, HE⟩ := HCA.out w2 hb2; clear hb2)
      | (refine step_conv (by rfl) 9 23 _ _ _ _ (by rfl) (by rfl) hr3 ?_)
      | (refine step_append (by rfl) _ _ 23 _ _ _ _ (by rfl) (by rfl) (by rfl) hr4 ?_))
    all_goals
      go_wp2
      go_ret2
      obtain ⟨e1, e2, e3, e4, e5⟩ := HE.out
      have hlen : (encZ k zs).length = m + n := by unfold encZ; rw [List.length_append, nums_len, HN.out, HM.out]
      refine ⟨by rw [HG0.out]; exact e1, .inr ⟨by rw [HN.out]; exact he, g', cap', ?_, by rw [HG0.out]; exact e2, e3, e4, by omega⟩⟩
      rw [hlen]
      rfl
  · have hfv := fits_err k n he
    rw [hfv] at HF
    rw [HN.out]
    obtain ⟨er, HER⟩ : ∃ er, Hid (er = errE k n) := ⟨_, rfl⟩
    rw [← HER.out] at HF
    have HB1 : Hid (Below w.heap.size w ((w.alloc (.cells #[.int .i64 k, .slice a n cap] 25)).alloc (.cells #[.int .i64 k, .slice a n cap] 25))) := ((Below.refl _ w).alloc (Nat.le_refl _) _).alloc (by simp) _
    go_enter Tryz.func9, Tryz.ntmps9
    go_wp2_with (go_at_call 33; refine (HF.out _).mono ?_; rintro ev w' ⟨rfl, rfl⟩)
    go_ret2
    refine ⟨HB1.out, .inl ⟨by rw [HN.out]; exact he, ?_⟩⟩
    rw [HN.out, ← HER.out]
    rfl
end Go.Proofs.YtbpdielmdhhdfaaGreatDoor
