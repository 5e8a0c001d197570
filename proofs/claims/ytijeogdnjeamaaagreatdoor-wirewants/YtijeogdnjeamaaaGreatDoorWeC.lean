/- The closure of 'writeIDs'. -/
import Derived.Test.YtijeogdnjeamaaaGreatDoorWeB
namespace Go.Proofs.YtijeogdnjeamaaaGreatDoor
open Go.RowKit
set_option linter.unusedVariables false
set_option linter.unusedSimpArgs false
theorem step_callf {P : Program} {ops : Array Oper} {o : Oper} {a : Act} {w : World} {K : Act → World → Prop} {Q : Exit → Act → World → Prop} {E : Prop} (hg : o.guard = none) (x : Operand) (f : FuncId) (caps : List Value) (args : List Operand) (ts : Array TypeId) (vs : List Value) (R : Ending → World → Prop)
    (ho : o.op = .call { callee := .value x, args := args.toArray, argTypes := ts }) (hf : a.eval x = .func (.func f) #[] caps.toArray) (hx : args.map a.eval = vs) (hent : ∀ w : World, (callFunc f (vs ++ caps).toArray).run P w = .ok (.enter f (vs ++ caps).toArray) w)
    (hc : Calls P f (vs ++ caps).toArray w R) (h : ∀ e w', R e w' → ∃ r, e = .returned r ∧ K (a.put o.dst r) w') :
    if Region.wanted o (yielded ops a.tmps) = true then Oper.wp P o a w K Q else E := by
  have hw : Region.wanted o (yielded ops a.tmps) = true := by simp [Region.wanted, hg]
  rw [if_pos hw]
  unfold Oper.wp
  have hent' : ∀ w : World, (callFunc f (vs.toArray ++ caps.toArray)).run P w = .ok (.enter f (vs ++ caps).toArray) w := fun w => by rw [List.append_toArray]; exact hent w
  simp only [execOp, ho, resolve, hf, List.map_toArray, hx, Deferred.ofValue]
  simp only [invoke, go_sem, Array.empty_append, hent']
  simp [go_sem, hent, Oper.upon_enter]
  refine hc.mono ?_
  intro e w' hr
  obtain ⟨r, rfl, hk⟩ := h e w' hr
  exact hk
theorem enter30 (x : Value) (w : World) : (callFunc 30 #[x]).run Tryz.prog w = .ok (.enter 30 #[x]) w := by kernel_rfl
theorem enter104 (x y : Value) (w : World) : (callFunc 104 #[x, y]).run Tryz.prog w = .ok (.enter 104 #[x, y]) w := by kernel_rfl
theorem hexP (x : List Int) (h : IdW x) (w : World) : Calls Tryz.prog 30 #[idV x] w fun e w' => e = .returned (.string ⟨(hxS x).toArray⟩) ∧ Below w.heap.size w w' := Hx.hex_prog x w h.1 h.2
theorem hexD (x : List Int) (h : IdW x) (w : World) : Calls Tryz.prog 34 #[idV x] w fun e w' => e = .returned (.string ⟨(hxS x).toArray⟩) ∧ Below w.heap.size w w' := Hx.hex_ref x w h.1 h.2
structure Q73 (q r G p : Nat) (Wd : ByteArray) (Y : List Value) (W : World) : Prop where
  c0 : W.cell? ⟨q, 0, none⟩ = some (.string Wd)
  c1 : W.cell? ⟨r, 0, none⟩ = some (onF p)
  c2 : W.rangeAt G 0 Y
def PostWi (word : Str) (x : List Int) (p g n : Nat) (S : List Int → Prop) (w : World) (e : Ending) (w' : World) : Prop :=
  w.grownBy w' (some g) ∧ ((S x ∧ ∃ u, e = .returned (.tuple #[.string u, .iface 37 (.int .i64 111)])) ∨ (¬ S x ∧ e = .returned (.tuple #[.string ⟨(word ++ hxS x).toArray⟩, .nilIface]) ∧ On w' p g (n + 1) (fun y => y = x ∨ S y)))
theorem Tryz.results73 : Tryz.f73.results = #[.tmp 4, .tmp 5] := by kernel_rfl
set_option maxRecDepth 20000 in
set_option maxHeartbeats 1000000 in
theorem writeF_any {w : World} {p g n q r : Nat} {S : List Int → Prop} (word : Str) (hwl : word.length ≤ 10) (h : On w p g n S) (hn : n ≤ 100000) (hq : w.cell? ⟨q, 0, none⟩ = some (.string ⟨word.toArray⟩)) (hr : w.cell? ⟨r, 0, none⟩ = some (onF p)) (hql : q < w.heap.size) (hrl : r < w.heap.size) (hgq : g ≠ q) (hgr : g ≠ r) {x : List Int} (hx : IdW x) :
    Calls Tryz.prog 73 #[idV x, .pointer (some ⟨q, 0, none⟩), .pointer (some ⟨r, 0, none⟩)] w (PostWi word x p g n S w) := by
  obtain ⟨G, HG⟩ : ∃ G, Hid (w.heap.size = G) := ⟨_, rfl⟩
  obtain ⟨Y, HY⟩ : ∃ S : List Value, Hid (row .u8 x = S) := ⟨_, rfl⟩
  have hiY : (Tryz.prog.info? 68).map (·.size) = some Y.length := by rw [← HY.out, row_len, hx.1]; exact size68
  obtain ⟨w1, HW1⟩ : ∃ w1, Hid (w.alloc (.cells Y.toArray 68) = w1) := ⟨_, rfl⟩
  obtain ⟨Wd, HWD⟩ : ∃ W : ByteArray, Hid (⟨word.toArray⟩ = W) := ⟨_, hid rfl⟩
  obtain ⟨Xh, HXH⟩ : ∃ W : ByteArray, Hid (⟨(hxS x).toArray⟩ = W) := ⟨_, hid rfl⟩
  obtain ⟨Z, HZ⟩ : ∃ W : ByteArray, Hid (Wd ++ Xh = W) := ⟨_, hid rfl⟩
  have HZW : Hid ((⟨(word ++ hxS x).toArray⟩ : ByteArray) = Z) := hid (by rw [← HZ.out, ← HWD.out, ← HXH.out]; exact (str_app word (hxS x)).symm)
  have hWd : Wd.size ≤ 10 := by rw [← HWD.out, txt_len]; exact hwl
  have hXh : Xh.size = 40 := by rw [← HXH.out, txt_len]; exact hxS_len x hx
  rw [HWD.out] at hq
  have hg1 : w.grownBy w1 none := by rw [← HW1.out]; exact World.grownBy_alloc _ _ _
  have hgd : w.grownBy w1.drew none := ⟨hg1.os, hg1.tape, hg1.output, hg1.size, hg1.block⟩
  have HON : Hid (∀ W, w.grownBy W none → On W p g n S) := hid (fun W hW => h.kept hW (by simp) (by simp))
  have HCG : Hid (g < G) := hid (by rw [← HG.out]; exact h.si.lt)
  have HQ0 : Hid (∀ W, w1.drew.grownBy W (some g) → Q73 q r G p Wd Y W) := hid (fun W hW => ⟨hW.cell (hgd.cell hq (by simp)) (fun e => hgq (by cases e; rfl)), hW.cell (hgd.cell hr (by simp)) (fun e => hgr (by cases e; rfl)), fun j v hv => by
    have h0 : w1.rangeAt G 0 Y := by rw [← HW1.out, ← HG.out]; exact range_row (heap_alloc_new w _)
    have h1 : w1.drew.cell? ⟨G, 0 + j, none⟩ = some v := h0 j v hv
    exact hW.cell h1 (fun e => by cases e; exact Nat.lt_irrefl _ HCG.out)⟩)
  have HGD : Hid (w.grownBy w1.drew none) := hid hgd
  have C30 : Hid (∀ W, Calls Tryz.prog 30 #[.agg Y.toArray] W fun e w' => e = .returned (.string Xh) ∧ Below W.heap.size W w') := hid (fun W => by rw [← HY.out, ← HXH.out]; exact hexP x hx W)
  have C104 : Hid (∀ W, w.grownBy W none → Calls Tryz.prog 104 #[.agg Y.toArray, .pointer (some ⟨p, 0, none⟩)] W (PostOn x p g n S W)) := hid (fun W hW => by rw [← HY.out]; exact onceF_any (HON.out W hW) hn hx)
  have al1 : w.alloc (.cells Y.toArray 68) = w1 := HW1.out
  unfold idV
  rw [HY.out]
  unfold PostWi
  rw [HZW.out]
  clear h hq hr hg1 hgd hql hrl hgq hgr
  have hs0 : w.heap.size = G := HG.out
  go_enter Tryz.func73, Tryz.ntmps73
  go_wp2_with fail
  have hS0 := HQ0.out w1.drew (World.grownBy.refl _ _)
  refine wp_region_held_drew (S := Q73 q r G p Wd Y) (by kernel_rfl) hS0 (fun hHeld => ?_)
  clear hS0
  generalize w1.drew = u0 at hHeld HQ0 HGD ⊢
  refine takeL (i := 0) (v := ?_) rfl (by kernel_rfl) (by kernel_rfl) (by kernel_rfl) (fun _ _ _ h => h) (Or.inl ⟨by rfl, ?_⟩) hHeld ?_
  rotate_left
  · rintro w' ⟨c0, c1, c2⟩; go_simp; rfl
  try simp only [Act.put, List.setIfInBounds_toArray, List.set_cons_zero, List.set_cons_succ]
  refine takeL (i := 1) (v := .agg Y.toArray) rfl (by kernel_rfl) (by kernel_rfl) (by kernel_rfl) (fun _ _ _ h => h) (yieldsIf_load_mid (by kernel_rfl) 68 _ rfl G 0 (by rfl) Y _ (fun w' h => h.c2) Tryz.underlying68 rfl hiY) hHeld ?_
  try simp only [Act.put, List.setIfInBounds_toArray, List.set_cons_zero, List.set_cons_succ]
  refine takeL (i := 4) (v := ?_) rfl (by kernel_rfl) (by kernel_rfl) (by kernel_rfl) (fun _ _ _ h => h) (Or.inl ⟨by rfl, ?_⟩) hHeld ?_
  rotate_left
  · rintro w' ⟨c0, c1, c2⟩; go_simp; rfl
  try simp only [Act.put, List.setIfInBounds_toArray, List.set_cons_zero, List.set_cons_succ]
  refine takeL (i := 5) (v := .agg Y.toArray) rfl (by kernel_rfl) (by kernel_rfl) (by kernel_rfl) (fun _ _ _ h => h) (yieldsIf_load_mid (by kernel_rfl) 68 _ rfl G 0 (by rfl) Y _ (fun w' h => h.c2) Tryz.underlying68 rfl hiY) hHeld ?_
  try simp only [Act.put, List.setIfInBounds_toArray, List.set_cons_zero, List.set_cons_succ]
  refine wpAnyH_ready (rs := [2]) (by kernel_rfl) (by simp) ?_
  refine consL rfl (fun KK hKK => ?_) AllReadyH.nil
  refine step_callv (by rfl) 30 [.tmp 7] _ [.agg Y.toArray] _ (by rfl) (by rfl) (enter30 _) (C30.out _) ?_
  rintro ev w2 ⟨rfl, hb⟩
  refine ⟨_, rfl, ?_⟩
  have HG2 : Hid (w.grownBy w2 none) := hid (HGD.out.trans (grown_of_below hb _))
  have HU2 : Hid (u0.grownBy w2 none) := hid (grown_of_below hb _)
  refine hKK.out _ _ (HQ0.out _ (HU2.out.but _)) (fun hHeld2 => ?_)
  clear hKK KK hb
  try simp only [Act.put, List.setIfInBounds_toArray, List.set_cons_zero, List.set_cons_succ]
  refine takeL (i := 3) (v := .string Z) rfl (by kernel_rfl) (by kernel_rfl) (by kernel_rfl) (fun _ _ _ h => h) (Or.inl ⟨by rfl, ?_⟩) hHeld2 ?_
  · rintro w' ⟨s0, s1, s2⟩; rw [← HZ.out]; go_simp; first | done | omega | rfl
  try simp only [Act.put, List.setIfInBounds_toArray, List.set_cons_zero, List.set_cons_succ]
  refine wpAnyH_ready (rs := [6]) (by kernel_rfl) (by simp) ?_
  refine consL rfl (fun KK hKK => ?_) AllReadyH.nil
  refine step_callf (by rfl) (.tmp 10) 104 [.pointer (some ⟨p, 0, none⟩)] [.tmp 11] _ [.agg Y.toArray] _ (by rfl) (by rfl) (by rfl) (enter104 _ _) (C104.out _ HG2.out) ?_
  rintro ev w3 ⟨hg3, ⟨hs, rfl⟩ | ⟨hs, rfl, hon⟩⟩
  · refine ⟨_, rfl, ?_⟩
    have HG3 : Hid (w.grownBy w3 (some g)) := hid ((HG2.out.but _).trans hg3)
    have HSX := hid hs
    refine hKK.out _ _ (HQ0.out _ ((HU2.out.but _).trans hg3)) (fun hHeld3 => ?_)
    clear hKK KK hg3 hs
    try simp only [Act.put, List.setIfInBounds_toArray, List.set_cons_zero, List.set_cons_succ]
    refine takeL (i := 7) (v := ?_) rfl (by kernel_rfl) (by kernel_rfl) (by kernel_rfl) (fun _ _ _ h => h) (Or.inl ⟨by rfl, ?_⟩) hHeld3 ?_
    rotate_left
    · rintro w' ⟨s0, s1, s2⟩; go_simp; rfl
    try simp only [Act.put, List.setIfInBounds_toArray, List.set_cons_zero, List.set_cons_succ]
    refine takeL (i := 8) (v := ?_) rfl (by kernel_rfl) (by kernel_rfl) (by kernel_rfl) (fun _ _ _ h => h) (Or.inl ⟨by rfl, ?_⟩) hHeld3 ?_
    rotate_left
    · rintro w' ⟨s0, s1, s2⟩; go_simp; rfl
    try simp only [Act.put, List.setIfInBounds_toArray, List.set_cons_zero, List.set_cons_succ]
    refine wpAnyH_done (by kernel_rfl) ?_ _
    clear hHeld hHeld2 hHeld3
    go_wp2
    refine bodyPost_ret (results_tmp2 Tryz.results73 _ _ _) rfl ?_
    exact ⟨HG3.out, .inl ⟨HSX.out, _, rfl⟩⟩
  · refine ⟨_, rfl, ?_⟩
    have HG3 : Hid (w.grownBy w3 (some g)) := hid ((HG2.out.but _).trans hg3)
    have HSX := hid hs
    have HO3 := hid hon
    refine hKK.out _ _ (HQ0.out _ ((HU2.out.but _).trans hg3)) (fun hHeld3 => ?_)
    clear hKK KK hg3 hs hon
    try simp only [Act.put, List.setIfInBounds_toArray, List.set_cons_zero, List.set_cons_succ]
    refine takeL (i := 7) (v := ?_) rfl (by kernel_rfl) (by kernel_rfl) (by kernel_rfl) (fun _ _ _ h => h) (Or.inl ⟨by rfl, ?_⟩) hHeld3 ?_
    rotate_left
    · rintro w' ⟨s0, s1, s2⟩; go_simp; rfl
    try simp only [Act.put, List.setIfInBounds_toArray, List.set_cons_zero, List.set_cons_succ]
    refine takeL (i := 8) (v := ?_) rfl (by kernel_rfl) (by kernel_rfl) (by kernel_rfl) (fun _ _ _ h => h) (Or.inl ⟨by rfl, ?_⟩) hHeld3 ?_
    rotate_left
    · rintro w' ⟨s0, s1, s2⟩; go_simp; rfl
    try simp only [Act.put, List.setIfInBounds_toArray, List.set_cons_zero, List.set_cons_succ]
    refine wpAnyH_done (by kernel_rfl) ?_ _
    clear hHeld hHeld2 hHeld3
    go_wp2
    refine bodyPost_ret (results_tmp2 Tryz.results73 _ _ _) rfl ?_
    exact ⟨HG3.out, .inr ⟨HSX.out, rfl, HO3.out⟩⟩
end Go.Proofs.YtijeogdnjeamaaaGreatDoor
