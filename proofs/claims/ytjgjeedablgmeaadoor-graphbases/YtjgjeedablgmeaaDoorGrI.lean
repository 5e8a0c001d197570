/- 'parents'. -/
import Derived.Test.YtjgjeedablgmeaaDoorGrH
namespace Go.Proofs.YtjgjeedablgmeaaDoor
open Go.RowKit
set_option linter.unusedVariables false
set_option linter.unusedSimpArgs false
set_option maxRecDepth 20000 in
theorem field53 (x : Nd) (h : x.id.length = 20) (w : World) : (Instr.field 53 (.agg (ndV x).toArray) 1).run Tryd.prog w = .ok (.slice x.pa x.ps.length x.pc) w := by
  obtain ⟨id, ps, pa, pc, tm⟩ := x
  obtain ⟨a0, a1, a2, a3, a4, a5, a6, a7, a8, a9, a10, a11, a12, a13, a14, a15, a16, a17, a18, a19, rfl⟩ := list20 id h
  unfold ndV
  simp only
  generalize ps.length = k
  kernel_rfl
theorem exec_field {P : Program} {o : Oper} {a : Act} {w w' : World} {t : TypeId} {x : Operand} {i : Nat} (ho : o.op = .field t x i) {xv v : Value} (hx : a.eval x = xv) (hr : (Instr.field t xv i).run P w = .ok v w') : (execOp a.eval o).run P w = .ok (.value v) w' := by
  unfold execOp
  simp [ho, hx, hr, Result.andThen]
def PostPa (l : List Nd) (y : List Int) (e : Ending) : Prop := (y ∉ ids l ∧ e = .returned (.tuple #[.slice none 0 0, .iface 30 (.int .i64 80)])) ∨ ∃ x ∈ l, x.id = y ∧ e = .returned (.tuple #[.slice x.pa x.ps.length x.pc, .nilIface])
structure QR (hb m G : Nat) (Y : List Value) (iv : Int) (b : Bool) (W : World) : Prop where
  c1 : W.cell? ⟨hb, 1, none⟩ = some (.map (some m))
  r0 : W.rangeAt G 0 Y
  lk : (Instr.lookup 75 (.map (some m)) (.agg Y.toArray) true).run Tryd.prog W = .ok (.tuple #[.int .i64 iv, .bool b]) W
set_option maxRecDepth 20000 in
set_option maxHeartbeats 4000000 in
theorem parents_any {w : World} {hb m : Nat} {a : Option Addr} {cap : Nat} {l : List Nd} (h : Hi w hb m a cap l) {y : List Int} (hy : IdW y) : Calls Tryd.prog 39 #[.pointer (some ⟨hb, 0, none⟩), idV y] w fun e w' => PostPa l y e ∧ Below w.heap.size w w' := by
  obtain ⟨G, HG⟩ : ∃ G, Hid (w.heap.size = G) := ⟨_, rfl⟩
  obtain ⟨n, f, s, hn3, hmi, hpl⟩ := h.map
  obtain ⟨Y, HY⟩ : ∃ S : List Value, Hid (row .u8 y = S) := ⟨_, rfl⟩
  have hiY : (Tryd.prog.info? 42).map (·.size) = some Y.length := by rw [← HY.out, row_len, hy.1]; exact Tryd.size42
  obtain ⟨w1, HW1⟩ : ∃ w1, Hid (w.alloc (.cells Y.toArray 42) = w1) := ⟨_, rfl⟩
  have hb1 : Below w.heap.size w w1 := by rw [← HW1.out]; exact (Below.refl _ w).alloc (Nat.le_refl _) _
  have HB1d : Hid (Below G w w1.drew) := hid (by rw [← HG.out]; exact below_drewH hb1 1)
  have RYd : Hid (w1.drew.rangeAt G 0 Y) := hid (by rw [← HW1.out, ← HG.out]; exact range_row (heap_alloc_new w _))
  obtain ⟨iv, HIV⟩ : ∃ iv, Hid ((f y).getD 0 = iv) := ⟨_, rfl⟩
  have hSd : QR hb m G Y iv (f y).isSome w1.drew := by
    have hbd := HB1d.out
    rw [← HG.out] at hbd
    refine ⟨(cell_of_row _ hb 1 _ _ _ ((hbd.block _ (lt_of_some h.box)).trans h.box)).trans rfl, RYd.out, ?_⟩
    have := (hmi.below hbd).look hy
    unfold idV at this
    rw [HY.out, HIV.out] at this
    exact this
  have HHd : Hid (Hi w1.drew hb m a cap l) := hid (h.below (by rw [HG.out]; exact HB1d.out))
  have HPL : Hid ((y ∉ ids l ∧ (f y).isSome = false) ∨ (∃ x ∈ l, x.id = y ∧ (f y).isSome = true)) := hid (by
    rcases hpl y with ⟨h1, h2⟩ | ⟨i, x, h1, h2, h3⟩
    · exact .inl ⟨h1, by rw [h2]; rfl⟩
    · exact .inr ⟨x, List.mem_of_getElem? h1, h2, by rw [h3]; rfl⟩)
  have hszd : G < w1.drew.heap.size := by
    rw [← HW1.out, ← HG.out]
    exact lt_of_some (heap_alloc_new w (.cells Y.toArray 42))
  unfold idV
  rw [HY.out]
  clear h hmi hpl hb1
  obtain ⟨bb, HBB⟩ : ∃ bb, Hid ((f y).isSome = bb) := ⟨_, rfl⟩
  rw [HBB.out] at hSd HPL
  go_enter Tryd.func39, Tryd.ntmps39
  go_wp2_with fail
  rw [HW1.out, HG.out]
  refine wp_region_held_drew (S := QR hb m G Y iv bb) (by kernel_rfl) hSd (fun hHeld => ?_)
  clear hSd
  generalize w1.drew = u0 at hHeld HB1d RYd HHd hszd ⊢
  refine takeL (i := 0) (v := ?_) rfl (by kernel_rfl) (by kernel_rfl) (by kernel_rfl) (fun _ _ _ h => h) (Or.inl ⟨by rfl, ?_⟩) hHeld ?_
  rotate_left
  · rintro w' ⟨c1, r0, lk⟩; go_simp; rfl
  try simp only [Act.put, List.setIfInBounds_toArray, List.set_cons_zero, List.set_cons_succ]
  refine takeL (i := 1) (v := ?_) rfl (by kernel_rfl) (by kernel_rfl) (by kernel_rfl) (fun _ _ _ h => h) (Or.inl ⟨by rfl, ?_⟩) hHeld ?_
  rotate_left
  · rintro w' ⟨c1, r0, lk⟩; go_simp; rfl
  try simp only [Act.put, List.setIfInBounds_toArray, List.set_cons_zero, List.set_cons_succ]
  refine takeL (i := 2) (v := ?_) rfl (by kernel_rfl) (by kernel_rfl) (by kernel_rfl) (fun _ _ _ h => h) (Or.inl ⟨by rfl, ?_⟩) hHeld ?_
  rotate_left
  · rintro w' ⟨c1, r0, lk⟩; go_simp; rfl
  try simp only [Act.put, List.setIfInBounds_toArray, List.set_cons_zero, List.set_cons_succ]
  refine takeL (i := 3) (v := ?_) rfl (by kernel_rfl) (by kernel_rfl) (by kernel_rfl) (fun _ _ _ h => h) (Or.inl ⟨by rfl, ?_⟩) hHeld ?_
  rotate_left
  · rintro w' ⟨c1, r0, lk⟩; go_simp; rfl
  try simp only [Act.put, List.setIfInBounds_toArray, List.set_cons_zero, List.set_cons_succ]
  refine takeL (i := 4) (v := .agg Y.toArray) rfl (by kernel_rfl) (by kernel_rfl) (by kernel_rfl) (fun _ _ _ h => h) (yieldsIf_load_mid (by kernel_rfl) 42 _ rfl G (0) (by rfl) Y _ (fun w' h => h.r0) Tryd.underlying42 rfl hiY) hHeld ?_
  try simp only [Act.put, List.setIfInBounds_toArray, List.set_cons_zero, List.set_cons_succ]
  refine takeL (i := 5) (v := .tuple #[.int .i64 iv, .bool bb]) rfl (by kernel_rfl) (by kernel_rfl) (by kernel_rfl) (fun _ _ _ h => h) (Or.inl ⟨by rfl, fun w' h => exec_lookup rfl rfl rfl h.lk⟩) hHeld ?_
  try simp only [Act.put, List.setIfInBounds_toArray, List.set_cons_zero, List.set_cons_succ]
  refine takeL (i := 6) (v := ?_) rfl (by kernel_rfl) (by kernel_rfl) (by kernel_rfl) (fun _ _ _ h => h) (Or.inl ⟨by rfl, ?_⟩) hHeld ?_
  rotate_left
  · rintro w' ⟨c1, r0, lk⟩; go_simp; rfl
  try simp only [Act.put, List.setIfInBounds_toArray, List.set_cons_zero, List.set_cons_succ]
  refine takeL (i := 7) (v := ?_) rfl (by kernel_rfl) (by kernel_rfl) (by kernel_rfl) (fun _ _ _ h => h) (Or.inl ⟨by rfl, ?_⟩) hHeld ?_
  rotate_left
  · rintro w' ⟨c1, r0, lk⟩; go_simp; rfl
  try simp only [Act.put, List.setIfInBounds_toArray, List.set_cons_zero, List.set_cons_succ]
  refine takeL (i := 8) (v := ?_) rfl (by kernel_rfl) (by kernel_rfl) (by kernel_rfl) (fun _ _ _ h => h) (Or.inl ⟨by rfl, ?_⟩) hHeld ?_
  rotate_left
  · rintro w' ⟨c1, r0, lk⟩; go_simp; rfl
  try simp only [Act.put, List.setIfInBounds_toArray, List.set_cons_zero, List.set_cons_succ]
  refine takeL (i := 9) (v := ?_) rfl (by kernel_rfl) (by kernel_rfl) (by kernel_rfl) (fun _ _ _ h => h) (Or.inl ⟨by rfl, ?_⟩) hHeld ?_
  rotate_left
  · rintro w' ⟨c1, r0, lk⟩; go_simp; rfl
  try simp only [Act.put, List.setIfInBounds_toArray, List.set_cons_zero, List.set_cons_succ]
  refine takeL (i := 10) (v := ?_) rfl (by kernel_rfl) (by kernel_rfl) (by kernel_rfl) (fun _ _ _ h => h) (Or.inl ⟨by rfl, ?_⟩) hHeld ?_
  rotate_left
  · rintro w' ⟨c1, r0, lk⟩; go_simp; rfl
  try simp only [Act.put, List.setIfInBounds_toArray, List.set_cons_zero, List.set_cons_succ]
  refine wpAnyH_done (by kernel_rfl) ?_ _
  clear hHeld
  rcases HPL.out with ⟨h1, h2⟩ | ⟨x, hx, h2, h3⟩
  · have HN1 : Hid (y ∉ ids l) := h1
    subst h2
    clear h1
    go_wp2
    go_ret2
    exact ⟨.inl ⟨HN1.out, rfl⟩, by rw [HG.out]; exact HB1d.out⟩
  · have HX : Hid (x ∈ l) := hx
    have HXY : Hid (x.id = y) := h2
    subst h3
    have HXW := (HHd.out.wf x hx).id
    obtain ⟨R, HR⟩ : ∃ S : List Value, Hid (ndV x = S) := ⟨_, rfl⟩
    have CN : Hid (Calls Tryd.prog 50 #[.pointer (some ⟨hb, 0, none⟩), .agg Y.toArray] u0 fun e w' => e = .returned (.agg R.toArray) ∧ Below u0.heap.size u0 w') := hid (by
      have := node_any HHd.out hx
      unfold idV at this
      rw [h2, HY.out, HR.out] at this
      exact this)
    obtain ⟨k, HK⟩ : ∃ k, Hid (x.ps.length = k) := ⟨_, rfl⟩
    obtain ⟨pa, HPA⟩ : ∃ k, Hid (x.pa = k) := ⟨_, rfl⟩
    obtain ⟨pc, HPC⟩ : ∃ k, Hid (x.pc = k) := ⟨_, rfl⟩
    have HF : Hid (∀ w : World, (Instr.field 53 (.agg R.toArray) 1).run Tryd.prog w = .ok (.slice pa k pc) w) := fun w => by rw [← HR.out, ← HK.out, ← HPA.out, ← HPC.out]; exact field53 x HXW.1 w
    clear hx h2 HXW
    go_wp2_with (first
      | refine wpList_load_mid rfl 42 _ rfl G 0 rfl Y _ RYd.out Tryd.underlying42 rfl hiY ?_
      | fail)
    refine CN.out.mono ?_
    rintro ev w3 ⟨rfl, hb3⟩
    have HB3 : Hid (Below G w w3) := hid (HB1d.out.trans (hb3.mono (Nat.le_of_lt hszd)))
    clear hb3
    go_wp2_with (first
      | refine wpList_run rfl _ (exec_field rfl rfl (HF.out _)) ?_
      | fail)
    go_ret2
    exact ⟨.inr ⟨x, HX.out, HXY.out, by rw [HK.out, HPA.out, HPC.out]; rfl⟩, by rw [HG.out]; exact HB3.out⟩
end Go.Proofs.YtjgjeedablgmeaaDoor
