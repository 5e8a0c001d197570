import Derived.Test.YtijeogdnjeamaaaGreatDoorQp15
import Derived.Test.YtijeogdnjeamaaaGreatDoorQp14
namespace Go.Proofs.YtijeogdnjeamaaaGreatDoor
open Go.RowKit
set_option linter.unusedVariables false
set_option linter.unusedSimpArgs false
set_option maxRecDepth 20000 in
set_option maxHeartbeats 4000000 in
theorem changes_any {w : World} (a : Option Addr) (cap : Nat) (l : List Chg) (hP : PCh w a cap l) (hf : FitC l) (hn : l.length ≤ 10000) :
    Calls Tryz.prog 20 #[.slice a l.length cap] w fun e w' => ∃ v, e = .returned v ∧ BCh 99 w w' w.heap.size v l := by
  obtain ⟨n, HN⟩ : ∃ n, Hid (l.length = n) := ⟨_, rfl⟩
  obtain ⟨G, HG⟩ : ∃ n, Hid (w.heap.size = n) := ⟨_, rfl⟩
  have hn6 : n ≤ 10000 := by rw [← HN.out]; exact hn
  have HPP : Hid (∀ X, Below G w X → PCh X a cap l) := hid (fun X hX => hP.below (by rw [HG.out]; exact hX))
  have HPL : Hid (0 < n → ∃ b off, a = some ⟨b, off, none⟩) := hid (fun h => by
    obtain ⟨b, off, e1, _⟩ := hP.at_ (by rw [HN.out]; exact h)
    exact ⟨b, off, e1⟩)
  have HFI := hid hf
  have S0 : Hid (BCh 99 w w G (.slice none 0 0) (l.take 0)) := hid (bx_nil 99 w G (by rw [HG.out]; exact Nat.le_refl _))
  rw [HN.out, HG.out]
  clear hP hf hn
  go_enter Tryz.func20, Tryz.ntmps20
  go_wp2_with fail
  go_loopg [3, 4] n (fun gg ov iv wr => ∃ i : Nat, i ≤ n ∧ gg = n - i ∧ iv = .int .i64 i ∧ Hid (BCh 99 w wr G ov (l.take i)))
  case atStart => exact ⟨0, Nat.zero_le _, rfl, rfl, S0⟩
  case round =>
    obtain ⟨i, hi, hkk, rfl, HS⟩ := hrel
    by_cases hlt : i < n
    · have hlti : (i : Int) < (n : Int) := by omega
      obtain ⟨b, off, e1⟩ := HPL.out (by omega)
      have hil : i < l.length := by rw [HN.out]; exact hlt
      obtain ⟨x, HX⟩ : ∃ x, Hid (l.getD i ch0 = x) := ⟨_, rfl⟩
      have hxf := HFI.out x (by rw [← HX.out]; exact getD_mem l i _ hil)
      obtain ⟨nm, xo, xn⟩ := x
      simp only at hxf
      obtain ⟨X, HXB⟩ : ∃ X : ByteArray, Hid (⟨nm.toArray⟩ = X) := ⟨_, hid rfl⟩
      obtain ⟨O, HO⟩ : ∃ S : List Value, Hid (row .u8 xo = S) := ⟨_, rfl⟩
      obtain ⟨M, HMM⟩ : ∃ S : List Value, Hid (row .u8 xn = S) := ⟨_, rfl⟩
      obtain ⟨V, HV⟩ : ∃ R : List Value, Hid (encCh (nm, (xo, xn)) = R) := ⟨_, rfl⟩
      have hiO : (Tryz.prog.info? 68).map (·.size) = some O.length := by rw [← HO.out, row_len, hxf.2.1.1]; exact size68
      have hiM : (Tryz.prog.info? 68).map (·.size) = some M.length := by rw [← HMM.out, row_len, hxf.2.2.1]; exact size68
      have HSd : Hid (BCh 99 w wr.drew G u3 (l.take i)) := hid (Bx.drew HS.out)
      have HQW : Hid (∀ W, Below G w W → Qc b (off + i * 41) X O M W) := hid (fun W hW => pch_at (HPP.out W hW) e1 i hil _ HX.out hxf.2 X HXB.out O M HO.out HMM.out)
      have HTX : Hid (l.take (i + 1) = l.take i ++ [(nm, (xo, xn))]) := hid (by rw [take_snocG ch0 l i hil, HX.out])
      have hbd : ∀ W : World, (Instr.build 99 #[(0, .string X), (1, .agg O.toArray), (2, .agg M.toArray)]).run Tryz.prog W = .ok (.agg V.toArray) W := fun W => by
        rw [← HV.out, ← HXB.out, ← HO.out, ← HMM.out]
        exact run_b99 nm xo xn hxf.2.1.1 hxf.2.2.1 W
      have HI8 : Hid (IdC [(nm, (xo, xn))]) := hid (fun y hy => by rw [List.mem_singleton.1 hy]; exact hxf.2)
      have HQN := hid (HQW.out _ HSd.out.below)
      subst e1
      clear hil hxf
      go_wp2_with fail
      refine wp_region_held_drew (S := Qc b (off + i * 41) X O M) (by kernel_rfl) HQN.out (fun hHeld => ?_)
      generalize wr.drew = u0 at hHeld HSd HQN ⊢
      refine takeL (i := 0) (v := ?_) rfl (by kernel_rfl) (by kernel_rfl) (by kernel_rfl) (fun _ _ _ h => h) (Or.inl ⟨by rfl, ?_⟩) hHeld ?_
      rotate_left
      · rintro w' ⟨c0, r1, r2⟩; go_simp; rfl
      try simp only [Act.put, List.setIfInBounds_toArray, List.set_cons_zero, List.set_cons_succ]
      refine takeL (i := 1) (v := ?_) rfl (by kernel_rfl) (by kernel_rfl) (by kernel_rfl) (fun _ _ _ h => h) (Or.inl ⟨by rfl, ?_⟩) hHeld ?_
      rotate_left
      · rintro w' ⟨c0, r1, r2⟩; go_simp; rfl
      try simp only [Act.put, List.setIfInBounds_toArray, List.set_cons_zero, List.set_cons_succ]
      refine takeL (i := 2) (v := ?_) rfl (by kernel_rfl) (by kernel_rfl) (by kernel_rfl) (fun _ _ _ h => h) (Or.inl ⟨by rfl, ?_⟩) hHeld ?_
      rotate_left
      · rintro w' ⟨c0, r1, r2⟩; go_simp; rfl
      try simp only [Act.put, List.setIfInBounds_toArray, List.set_cons_zero, List.set_cons_succ]
      refine takeL (i := 3) (v := ?_) rfl (by kernel_rfl) (by kernel_rfl) (by kernel_rfl) (fun _ _ _ h => h) (Or.inl ⟨by rfl, ?_⟩) hHeld ?_
      rotate_left
      · rintro w' ⟨c0, r1, r2⟩; go_simp; rfl
      try simp only [Act.put, List.setIfInBounds_toArray, List.set_cons_zero, List.set_cons_succ]
      refine takeL (i := 4) (v := ?_) rfl (by kernel_rfl) (by kernel_rfl) (by kernel_rfl) (fun _ _ _ h => h) (Or.inl ⟨by rfl, ?_⟩) hHeld ?_
      rotate_left
      · rintro w' ⟨c0, r1, r2⟩; go_simp; rfl
      try simp only [Act.put, List.setIfInBounds_toArray, List.set_cons_zero, List.set_cons_succ]
      refine takeL (i := 5) (v := ?_) rfl (by kernel_rfl) (by kernel_rfl) (by kernel_rfl) (fun _ _ _ h => h) (Or.inl ⟨by rfl, ?_⟩) hHeld ?_
      rotate_left
      · rintro w' ⟨c0, r1, r2⟩; go_simp; rfl
      try simp only [Act.put, List.setIfInBounds_toArray, List.set_cons_zero, List.set_cons_succ]
      refine takeL (i := 6) (v := ?_) rfl (by kernel_rfl) (by kernel_rfl) (by kernel_rfl) (fun _ _ _ h => h) (Or.inl ⟨by rfl, ?_⟩) hHeld ?_
      rotate_left
      · rintro w' ⟨c0, r1, r2⟩; go_simp; rfl
      try simp only [Act.put, List.setIfInBounds_toArray, List.set_cons_zero, List.set_cons_succ]
      refine takeL (i := 7) (v := ?_) rfl (by kernel_rfl) (by kernel_rfl) (by kernel_rfl) (fun _ _ _ h => h) (Or.inl ⟨by rfl, ?_⟩) hHeld ?_
      rotate_left
      · rintro w' ⟨c0, r1, r2⟩; go_simp; rfl
      try simp only [Act.put, List.setIfInBounds_toArray, List.set_cons_zero, List.set_cons_succ]
      refine takeL (i := 8) (v := ?_) rfl (by kernel_rfl) (by kernel_rfl) (by kernel_rfl) (fun _ _ _ h => h) (Or.inl ⟨by rfl, ?_⟩) hHeld ?_
      rotate_left
      · rintro w' ⟨c0, r1, r2⟩; go_simp; rfl
      try simp only [Act.put, List.setIfInBounds_toArray, List.set_cons_zero, List.set_cons_succ]
      refine takeL (i := 9) (v := ?_) rfl (by kernel_rfl) (by kernel_rfl) (by kernel_rfl) (fun _ _ _ h => h) (Or.inl ⟨by rfl, ?_⟩) hHeld ?_
      rotate_left
      · rintro w' ⟨c0, r1, r2⟩; go_simp; rfl
      try simp only [Act.put, List.setIfInBounds_toArray, List.set_cons_zero, List.set_cons_succ]
      refine takeL (i := 10) (v := .agg O.toArray) rfl (by kernel_rfl) (by kernel_rfl) (by kernel_rfl) (fun _ _ _ h => h) (yieldsIf_load_mid (by kernel_rfl) 68 _ rfl b (off + i * 41 + 1) (by rfl) O _ (fun w' h => h.r1) Tryz.underlying68 rfl hiO) hHeld ?_
      try simp only [Act.put, List.setIfInBounds_toArray, List.set_cons_zero, List.set_cons_succ]
      refine takeL (i := 11) (v := ?_) rfl (by kernel_rfl) (by kernel_rfl) (by kernel_rfl) (fun _ _ _ h => h) (Or.inl ⟨by rfl, ?_⟩) hHeld ?_
      rotate_left
      · rintro w' ⟨c0, r1, r2⟩; go_simp; rfl
      try simp only [Act.put, List.setIfInBounds_toArray, List.set_cons_zero, List.set_cons_succ]
      refine takeL (i := 12) (v := ?_) rfl (by kernel_rfl) (by kernel_rfl) (by kernel_rfl) (fun _ _ _ h => h) (Or.inl ⟨by rfl, ?_⟩) hHeld ?_
      rotate_left
      · rintro w' ⟨c0, r1, r2⟩; go_simp; rfl
      try simp only [Act.put, List.setIfInBounds_toArray, List.set_cons_zero, List.set_cons_succ]
      refine takeL (i := 13) (v := ?_) rfl (by kernel_rfl) (by kernel_rfl) (by kernel_rfl) (fun _ _ _ h => h) (Or.inl ⟨by rfl, ?_⟩) hHeld ?_
      rotate_left
      · rintro w' ⟨c0, r1, r2⟩; go_simp; rfl
      try simp only [Act.put, List.setIfInBounds_toArray, List.set_cons_zero, List.set_cons_succ]
      refine takeL (i := 14) (v := ?_) rfl (by kernel_rfl) (by kernel_rfl) (by kernel_rfl) (fun _ _ _ h => h) (Or.inl ⟨by rfl, ?_⟩) hHeld ?_
      rotate_left
      · rintro w' ⟨c0, r1, r2⟩; go_simp; rfl
      try simp only [Act.put, List.setIfInBounds_toArray, List.set_cons_zero, List.set_cons_succ]
      refine takeL (i := 15) (v := .agg M.toArray) rfl (by kernel_rfl) (by kernel_rfl) (by kernel_rfl) (fun _ _ _ h => h) (yieldsIf_load_mid (by kernel_rfl) 68 _ rfl b (off + i * 41 + 21) (by rfl) M _ (fun w' h => h.r2) Tryz.underlying68 rfl hiM) hHeld ?_
      try simp only [Act.put, List.setIfInBounds_toArray, List.set_cons_zero, List.set_cons_succ]
      refine takeL (i := 16) (v := .agg V.toArray) rfl (by kernel_rfl) (by kernel_rfl) (by kernel_rfl) (fun _ _ _ h => h) (Or.inl ⟨by rfl, ?_⟩) hHeld ?_
      · rintro w' ⟨c0, r1, r2⟩; exact exec_bd3 99 (.tmp 16) (.tmp 21) (.tmp 26) (by rfl) _ _ _ _ (by rfl) (by rfl) (by rfl) (hbd w')
      try simp only [Act.put, List.setIfInBounds_toArray, List.set_cons_zero, List.set_cons_succ]
      obtain ⟨u1, HU1⟩ : ∃ u, Hid (u0.alloc (.cells V.toArray 99) = u) := ⟨_, rfl⟩
      obtain ⟨K, HKK⟩ : ∃ u, Hid (u0.heap.size = u) := ⟨_, rfl⟩
      have HS1 : Hid (BCh 99 w u1 G u3 (l.take i)) := hid (by rw [← HU1.out]; exact Bx.alloc HSd.out _)
      have HP1 : Hid (PCh u1 (some ⟨K, 0, none⟩) 1 [(nm, (xo, xn))]) := hid (by
        rw [← HU1.out, ← HKK.out, ← HV.out]
        exact pch_one u0 (nm, (xo, xn)) 99)
      have hbs : (Instr.buildSlice 50 1 #[(0, .agg V.toArray)]).run Tryz.prog u0 = .ok (.slice (some ⟨K, 0, none⟩) 1 1) u1 := by
        rw [← HU1.out, ← HKK.out, ← HV.out]
        exact run_b50 (nm, (xo, xn)) (HI8.out _ (List.mem_singleton.2 rfl)) u0
      refine wpAnyH_ready (rs := [17]) (by kernel_rfl) (by simp) ?_
      refine consL rfl (fun KK hKK => ?_) AllReadyH.nil
      refine step_exec (by rfl) (.slice (some ⟨K, 0, none⟩) 1 1) (w' := u1) (exec_bS1 50 1 (.tmp 27) (by rfl) _ _ (by rfl) hbs) ?_
      refine hKK.out _ _ (HQW.out _ HS1.out.below) (fun _ => ?_)
      clear hKK KK hbs
      try simp only [Act.put, List.setIfInBounds_toArray, List.set_cons_zero, List.set_cons_succ]
      refine wpAnyH_ready (rs := [18]) (by kernel_rfl) (by simp) ?_
      refine consL rfl (fun KK hKK => ?_) AllReadyH.nil
      refine step_app50 (by rfl) (.tmp 11) (.tmp 28) (by rfl) G u3 (l.take i) (by rfl) HS1.out (some ⟨K, 0, none⟩) 1 [(nm, (xo, xn))] (by rfl) HP1.out HI8.out (by rw [List.length_take]; simp; omega) ?_
      intro v2 u2 hb2 hg2
      have HS2 : Hid (BCh 99 w u2 G v2 (l.take (i + 1))) := hid (by rw [HTX.out]; exact hb2)
      clear hb2 hg2
      have hHeld2 := HQW.out _ HS2.out.below
      refine hKK.out _ _ hHeld2 (fun _ => ?_)
      clear hKK KK hHeld
      try simp only [Act.put, List.setIfInBounds_toArray, List.set_cons_zero, List.set_cons_succ]
      refine takeL (i := 19) (v := ?_) rfl (by kernel_rfl) (by kernel_rfl) (by kernel_rfl) (fun _ _ _ h => h) (Or.inl ⟨by rfl, ?_⟩) hHeld2 ?_
      rotate_left
      · rintro w' ⟨c0, r1, r2⟩; go_simp; rfl
      try simp only [Act.put, List.setIfInBounds_toArray, List.set_cons_zero, List.set_cons_succ]
      refine wpAnyH_done (by kernel_rfl) ?_ _
      clear hHeld2
      go_wp2
      go_roundg (n - (i + 1))
      case measure => omega
      case rel => exact ⟨i + 1, by omega, rfl, by go_num, HS2⟩
    · have hlti : ¬ (i : Int) < (n : Int) := by omega
      have HS3 : Hid (BCh 99 w wr G u3 l) := hid (by
        have h := HS.out
        rw [List.take_of_length_le (by rw [HN.out]; omega)] at h
        exact h)
      go_wp2
      go_ret
      exact ⟨_, rfl, HS3.out⟩
def ResC (s : Str) (l : List Chg) (p : Str) (ev : Int) (ie : Value) : Prop :=
  (Cok s l p ∧ ev = 0 ∧ ie = .nilIface) ∨ ((¬ ∃ l p, Cok s l p) ∧ (∃ ls r, Flu s ls r) ∧ l = [] ∧ p = [] ∧ ev = 111 ∧ ie = .iface 37 (.int .i64 111)) ∨ ((¬ ∃ ls r, Flu s ls r) ∧ l = [] ∧ p = [] ∧ ev = 110 ∧ ie = .iface 37 (.int .i64 110))
theorem ResC.cnt {s p : Str} {l : List Chg} {ev : Int} {ie : Value} (h : ResC s l p ev ie) : l.length ≤ 500 ∧ IdC l ∧ p.length ≤ s.length := by
  rcases h with ⟨h, _⟩ | ⟨_, _, rfl, rfl, _⟩ | ⟨_, rfl, rfl, _⟩
  · refine ⟨h.ok.2.2, h.ids, ?_⟩
    rw [h.b, List.length_append]
    omega
  · exact ⟨by simp, fun x hx => (by cases hx), by simp⟩
  · exact ⟨by simp, fun x hx => (by cases hx), by simp⟩
theorem PostRP.res {s : Str} {w w' : World} {e : Ending} (h : PostRP s w w.heap.size e w') : ∃ l p ev ie a c a2 c2, ResC s l p ev ie ∧ e = .returned (.tuple #[.slice a l.length c, .slice a2 p.length c2, ie]) ∧ BCh 96 w w' w.heap.size (.slice a l.length c) l ∧ w'.ownsRow w.heap.size 5 1 (.slice a2 p.length c2) p.length (bv p) := by
  obtain ⟨hb, ⟨l, p, v, u, h1, rfl, hv, ho⟩ | ⟨h1, h2, rfl⟩ | ⟨h1, rfl⟩⟩ := h
  · obtain ⟨a, c, rfl, _⟩ := hv.px (d := ch0) (encCh_ln h1.ids)
    obtain ⟨a2, c2, rfl, _⟩ := own_pb ho
    exact ⟨l, p, 0, .nilIface, a, c, a2, c2, .inl ⟨h1, rfl, rfl⟩, rfl, hv, ho⟩
  · exact ⟨[], [], 111, _, none, 0, none, 0, .inr (.inl ⟨h1, h2, rfl, rfl, rfl, rfl⟩), rfl, ⟨hb, ⟨rfl, .inl ⟨rfl, rfl⟩⟩, hb.size⟩, ⟨rfl, .inl ⟨rfl, rfl⟩⟩⟩
  · exact ⟨[], [], 110, _, none, 0, none, 0, .inr (.inr ⟨h1, rfl, rfl, rfl, rfl⟩), rfl, ⟨hb, ⟨rfl, .inl ⟨rfl, rfl⟩⟩, hb.size⟩, ⟨rfl, .inl ⟨rfl, rfl⟩⟩⟩
theorem pch_nil (w : World) : PCh w none 0 [] := ⟨Nat.le_refl _, fun h => by simp at h, fun _ => rfl⟩
theorem PostRDc.res {s p : Str} {w w' : World} {e : Ending} {l : List Chg} {ev : Int} {ie : Value} (hr : ResC s l p ev ie) (h : PostRDc s w w.heap.size e w') : Below w.heap.size w w' ∧ ∃ a c a2 c2, e = .returned (.tuple #[.slice a l.length c, .slice a2 p.length c2, .int .i64 ev]) ∧ PCh w' a c l ∧ PB w' a2 c2 p := by
  obtain ⟨hb, ⟨l2, p2, v, aa, cc, h1, rfl, hv, hp⟩ | ⟨h1, h2, rfl⟩ | ⟨h1, rfl⟩⟩ := h
  · rcases hr with ⟨hr, rfl, rfl⟩ | ⟨hr, _⟩ | ⟨hr, _⟩
    · obtain ⟨rfl, rfl⟩ := cok_one hr h1
      obtain ⟨a, c, rfl, hpc, _⟩ := hv.px (d := ch0) (encCh_ln h1.ids)
      exact ⟨hb, a, c, aa, cc, rfl, hpc, hp⟩
    · exact absurd ⟨l2, p2, h1⟩ hr
    · exact absurd ⟨_, _, cok_fl h1⟩ hr
  · rcases hr with ⟨hr, rfl, rfl⟩ | ⟨hr, _, rfl, rfl, rfl, rfl⟩ | ⟨hr, _⟩
    · exact absurd ⟨l, p, hr⟩ h1
    · exact ⟨hb, none, 0, none, 0, rfl, pch_nil w', pb_none w'⟩
    · exact absurd h2 hr
  · rcases hr with ⟨hr, rfl, rfl⟩ | ⟨hr, h2, _⟩ | ⟨hr, rfl, rfl, rfl, rfl⟩
    · exact absurd ⟨_, _, cok_fl hr⟩ h1
    · exact absurd h2 h1
    · exact ⟨hb, none, 0, none, 0, rfl, pch_nil w', pb_none w'⟩
theorem ResC.tell {s p : Str} {l : List Chg} {ev : Int} {ie : Value} (h : ResC s l p ev ie) (W : World) (hg : Hg W) : Calls Tryz.prog 11 #[ie] W fun e w' => e = .returned (.int .i64 ev) ∧ Below W.heap.size W w' := by
  rcases h with ⟨_, rfl, rfl⟩ | ⟨_, _, _, _, rfl, rfl⟩ | ⟨_, _, _, rfl, rfl⟩
  · exact tell_nil W
  · exact tell_errno 111 W hg
  · exact tell_errno 110 W hg
structure Q6 (b o b2 o2 : Nat) (X : ByteArray) (O M : List Value) (W : World) : Prop where
  c0 : W.cell? ⟨b, o, none⟩ = some (.string X)
  r1 : W.rangeAt b (o + 1) O
  r2 : W.rangeAt b (o + 21) M
  c3 : W.cell? ⟨b2, o2, none⟩ = some (.string X)
  r4 : W.rangeAt b2 (o2 + 1) O
  r5 : W.rangeAt b2 (o2 + 21) M
set_option maxRecDepth 20000 in
set_option maxHeartbeats 8000000 in
theorem pushes_any {w : World} (a : Option Addr) (cap : Nat) (s : Str) (hP : PB w a cap s) (hl : s.length ≤ 20000) (hg : Hg w) (he : Ers w) (hd : Db w) (hm : Nm.Mx w) : Calls Tryz.prog 22 #[.slice a s.length cap] w fun e w' => e = .returned (.bool true) ∧ Below w.heap.size w w' := by
  obtain ⟨n, HN⟩ : ∃ n, Hid (s.length = n) := ⟨_, rfl⟩
  obtain ⟨G, HG⟩ : ∃ g, Hid (w.heap.size = g) := ⟨_, rfl⟩
  have hG0 : 0 < G := by rw [← HG.out]; exact hg.lt
  have HPW : Hid (∀ W, Below G w W → PB W a cap s) := hid (fun W hW => hP.below (by rw [HG.out]; exact hW))
  have HGW : Hid (∀ W, Below G w W → Hg W) := hid (fun W hW => hg.below hW hG0)
  have HEW : Hid (∀ W, Below G w W → Ers W ∧ Db W ∧ Nm.Mx W) := hid (fun W hW => by
    have hbw : Below w.heap.size w W := by rw [HG.out]; exact hW
    exact ⟨he.below hbw, hd.b hW HG.out.symm, Mx_kept hm (grown_of_below hbw none) (by simp)⟩)
  have HSB : Hid (0 < s.length → ∃ b off, a = some ⟨b, off, none⟩ ∧ b < G) := hid (fun h0 => by
    obtain ⟨b, off, e1, e2, _⟩ := hP.at_ h0
    exact ⟨b, off, e1, by rw [← HG.out]; exact e2⟩)
  have HL := hid hl
  have C17 : Hid (Calls Tryz.prog 17 #[.slice a n cap] w fun e w' => e = .returned (.slice (some ⟨G, 0, none⟩) n (n + 2)) ∧ Below G w w' ∧ Room w' G (nums s)) := hid (by
    have := roomy_any a cap (nums s) w (by rw [nums_len]; omega) (fun h0 => by
      rw [nums_len] at h0
      obtain ⟨b, off, e1, e2, _⟩ := hP.at_ h0
      subst e1
      exact ⟨b, off, rfl, e2, pb_at hP⟩)
    rw [nums_len, HN.out, HG.out] at this
    exact this)
  have C19 : Hid (∀ W, Below G w W → Room W G (nums s) → Calls Tryz.prog 19 #[.slice (some ⟨G, 0, none⟩) n (n + 2), .slice a n cap] W fun e w' => e = .returned (.bool true) ∧ W.grownBy w' (some G)) := hid (fun W hW hr => by
    have := still_keep a cap G (nums s) W (by rw [nums_len]; omega) (nums_b s) hr (fun h0 => by
      rw [nums_len] at h0
      obtain ⟨b, off, e1, e2⟩ := HSB.out h0
      subst e1
      exact ⟨b, off, rfl, e2, pb_at (HPW.out W hW)⟩)
    rw [nums_len, HN.out] at this
    exact this)
  have C40 : Hid (∀ W, Below G w W → Room W G (nums s) → Calls Tryz.prog 46 #[.slice (some ⟨G, 0, none⟩) n (n + 2)] W (PostRP s W W.heap.size)) := hid (fun W hW hr => by
    obtain ⟨h1, h2, h3⟩ := HEW.out W hW
    have := readPush_any (some ⟨G, 0, none⟩) (s.length + 2) s hr.pb HL.out h1 h2 h3
    rw [HN.out] at this
    exact this)
  have C41 : Hid (∀ W, Below G w W → Calls Tryz.prog 47 #[.slice a n cap] W (PostRDc s W W.heap.size)) := hid (fun W hW => by
    have := refReadPush_any a cap s (HPW.out W hW) HL.out
    rw [HN.out] at this
    exact this)
  have HGS : Hid (∀ X, Below G w X → G ≤ X.heap.size) := hid (fun X hX => by have := hX.size; have := HG.out; omega)
  rw [HN.out, HG.out]
  clear hP hl hg he hd hm
  go_enter Tryz.func22, Tryz.ntmps22
  go_wp2_with fail
  refine C17.out.mono ?_
  rintro e w1 ⟨rfl, hb1, hr1⟩
  have HB1 := hid hb1
  have HR1 := hid hr1
  have hG1 : G < w1.heap.size := hr1.lt
  clear hb1 hr1
  go_wp2_with fail
  refine (C40.out w1 HB1.out HR1.out).mono ?_
  intro e w2 h40
  obtain ⟨l, p, ev, ie, a1, c1, a2, c2, hres, rfl, hv1, ho2⟩ := h40.res
  have HB2 : Hid (Below G w w2) := hid (HB1.out.trans (h40.1.mono (by omega)))
  have HR2 : Hid (Room w2 G (nums s)) := hid (HR1.out.below h40.1)
  obtain ⟨k, HK⟩ : ∃ n, Hid (l.length = n) := ⟨_, rfl⟩
  obtain ⟨pl, HPLn⟩ : ∃ n, Hid (p.length = n) := ⟨_, rfl⟩
  have hk5 : k ≤ 500 := by rw [← HK.out]; exact hres.cnt.1
  have HIC : Hid (IdC l) := hid hres.cnt.2.1
  have HPS : Hid (p.length ≤ 20000) := hid (by have := hres.cnt.2.2; have := HL.out; omega)
  rw [HK.out] at hv1
  have HO2 := hid ho2
  rw [HK.out, HPLn.out]
  have HV1 := hid hv1
  have HRS := hid hres
  clear h40 hv1 hres ho2
  go_wp2_with fail
  refine (C19.out w2 HB2.out HR2.out).mono ?_
  rintro e w3 ⟨rfl, hg3⟩
  have HB3 : Hid (Below G w w3) := hid (HB2.out.grown hg3 (HGS.out w2 HB2.out) (fun q hq => by cases hq; exact Nat.le_refl _))
  have HG3 := hid hg3
  clear hg3
  go_wp2_with fail
  refine (C41.out w3 HB3.out).mono ?_
  intro e w4 h41
  obtain ⟨hb4, a3, c3, a4, c4, rfl, hp3, hp4⟩ := PostRDc.res HRS.out h41
  have HB4 : Hid (Below G w w4) := hid (HB3.out.trans (hb4.mono (HGS.out w3 HB3.out)))
  have hk1 := own_keep (own_keep HV1.out.own HG3.out (fun j e => by cases e; omega)) (grown_of_below hb4 none) (fun j e => by cases e)
  have hk2 := own_keep (own_keep HO2.out HG3.out (fun j e => by cases e; omega)) (grown_of_below hb4 none) (fun j e => by cases e)
  have hbx : BCh 96 w4 w4 (min w1.heap.size w4.heap.size) (.slice a1 k c1) l := ⟨Below.refl _ _, base_mono hk1 (Nat.min_le_left _ _), Nat.min_le_right _ _⟩
  have hp1 : PCh w4 a1 c1 l := by
    obtain ⟨ax, cx, e1, hp, _⟩ := hbx.px (d := ch0) (encCh_ln HIC.out)
    rw [HK.out] at e1
    injection e1 with e2 e3 e4
    rw [e2, e4]
    exact hp
  have hp2 : PB w4 a2 c2 p := by
    obtain ⟨ax, cx, e1, hp, _⟩ := own_pb hk2
    injection e1 with e2 e3 e4
    rw [e2, e4]
    exact hp
  have C10 : Hid (Calls Tryz.prog 10 #[.slice a2 pl c2, .slice a4 pl c4] w4 fun e w' => e = .returned (.bool true) ∧ Below w4.heap.size w4 w') := hid (by
    rw [← HPLn.out]
    exact sameB a2 a4 c2 c4 p hp2 hp4 (by have := HPS.out; omega))
  have HPP : Hid (∀ W, Below w4.heap.size w4 W → PCh W a1 c1 l ∧ PCh W a3 c3 l) := hid (fun W hW => ⟨hp1.below hW, hp3.below hW⟩)
  have HA1 : Hid (0 < k → ∃ b off, a1 = some ⟨b, off, none⟩) := hid (fun h => by
    obtain ⟨b, off, e1, _⟩ := hp1.at_ (by rw [HK.out]; exact h)
    exact ⟨b, off, e1⟩)
  have HA3 : Hid (0 < k → ∃ b off, a3 = some ⟨b, off, none⟩) := hid (fun h => by
    obtain ⟨b, off, e1, _⟩ := hp3.at_ (by rw [HK.out]; exact h)
    exact ⟨b, off, e1⟩)
  rw [HK.out, HPLn.out]
  have hee : (ev != ev) = false := by simp
  clear hb4 h41 hk1 hk2 hbx hp1 hp2 hp3 hp4
  go_wp2_with fail
  refine C10.out.mono ?_
  rintro e w8 ⟨rfl, hb8⟩
  have HB8 : Hid (Below w4.heap.size w4 w8) := hid hb8
  have HBG8 : Hid (Below G w w8) := hid (HB4.out.trans (hb8.mono (HGS.out w4 HB4.out)))
  have DT : Hid (Calls Tryz.prog 11 #[ie] w8 fun e w' => e = .returned (.int .i64 ev) ∧ Below w8.heap.size w8 w') := hid (HRS.out.tell w8 (HGW.out w8 HBG8.out))
  clear hb8
  go_wp2_with fail
  refine DT.out.mono ?_
  rintro e w5 ⟨rfl, hb5⟩
  have S0 : Hid (Below w4.heap.size w4 w5) := hid (HB8.out.trans (hb5.mono HB8.out.size))
  clear hb5
  go_wp2_with fail
  go_loopg [12] k (fun gg kv wr => ∃ i : Nat, i ≤ k ∧ gg = k - i ∧ kv = .int .i64 i ∧ Hid (Below w4.heap.size w4 wr))
  case atStart => exact ⟨0, Nat.zero_le _, rfl, rfl, S0⟩
  case round =>
    obtain ⟨i, hi, hkk, rfl, HS⟩ := hrel
    by_cases hlt : i < k
    · have hlti : (i : Int) < (k : Int) := by omega
      obtain ⟨b1, o1, e1⟩ := HA1.out (by omega)
      obtain ⟨b3, o3, e3⟩ := HA3.out (by omega)
      have hil : i < l.length := by rw [HK.out]; exact hlt
      obtain ⟨x, HX⟩ : ∃ x, Hid (l.getD i ch0 = x) := ⟨_, rfl⟩
      have hxw := HIC.out x (by rw [← HX.out]; exact getD_mem l i _ hil)
      obtain ⟨X, HXB⟩ : ∃ X : ByteArray, Hid (⟨x.1.toArray⟩ = X) := ⟨_, hid rfl⟩
      obtain ⟨O, HO⟩ : ∃ S : List Value, Hid (row .u8 x.2.1 = S) := ⟨_, rfl⟩
      obtain ⟨M, HMM⟩ : ∃ S : List Value, Hid (row .u8 x.2.2 = S) := ⟨_, rfl⟩
      have hiO : (Tryz.prog.info? 68).map (·.size) = some O.length := by rw [← HO.out, row_len, hxw.1.1]; exact size68
      have hiM : (Tryz.prog.info? 68).map (·.size) = some M.length := by rw [← HMM.out, row_len, hxw.2.1]; exact size68
      have hiO7 : (Tryz.prog.info? 67).map (·.size) = some O.length := by rw [← HO.out, row_len, hxw.1.1]; exact size67
      have hiM7 : (Tryz.prog.info? 67).map (·.size) = some M.length := by rw [← HMM.out, row_len, hxw.2.1]; exact size67
      have HSd : Hid (Below w4.heap.size w4 wr.drew) := hid (HS.out.drew)
      have hSd : Q6 b1 (o1 + i * 41) b3 (o3 + i * 41) X O M wr.drew := by
        have h1 := pch_at (HPP.out _ HSd.out).1 e1 i hil _ HX.out hxw X HXB.out O M HO.out HMM.out
        have h3 := pch_at (HPP.out _ HSd.out).2 e3 i hil _ HX.out hxw X HXB.out O M HO.out HMM.out
        exact ⟨h1.c0, h1.r1, h1.r2, h3.c0, h3.r1, h3.r2⟩
      have heqO : ∀ W : World, (Op.equalIn 10000 68 (.agg O.toArray) (.agg O.toArray)).run Tryz.prog W = .ok true W := fun W => by
        have := eq68 x.2.1 x.2.1 hxw.1.1 hxw.1.1 W
        rw [decide_eq_true rfl] at this
        rw [← HO.out]
        exact this
      have heqM : ∀ W : World, (Op.equalIn 10000 68 (.agg M.toArray) (.agg M.toArray)).run Tryz.prog W = .ok true W := fun W => by
        have := eq68 x.2.2 x.2.2 hxw.2.1 hxw.2.1 W
        rw [decide_eq_true rfl] at this
        rw [← HMM.out]
        exact this
      have HQN := hid hSd
      subst e1 e3
      have hXX : (X.toList != X.toList) = false := by simp
      clear hSd hil hxw
      go_wp2_with fail
      refine wp_region_held_drew (S := Q6 b1 (o1 + i * 41) b3 (o3 + i * 41) X O M) (by kernel_rfl) HQN.out (fun hHeld => ?_)
      generalize wr.drew = u0 at hHeld HSd HQN ⊢
      refine takeL (i := 0) (v := ?_) rfl (by kernel_rfl) (by kernel_rfl) (by kernel_rfl) (fun _ _ _ h => h) (Or.inl ⟨by rfl, ?_⟩) hHeld ?_
      rotate_left
      · rintro w' ⟨c0, r1, r2, c3, r4, r5⟩; go_simp; rfl
      try simp only [Act.put, List.setIfInBounds_toArray, List.set_cons_zero, List.set_cons_succ]
      refine takeL (i := 1) (v := ?_) rfl (by kernel_rfl) (by kernel_rfl) (by kernel_rfl) (fun _ _ _ h => h) (Or.inl ⟨by rfl, ?_⟩) hHeld ?_
      rotate_left
      · rintro w' ⟨c0, r1, r2, c3, r4, r5⟩; go_simp; rfl
      try simp only [Act.put, List.setIfInBounds_toArray, List.set_cons_zero, List.set_cons_succ]
      refine takeL (i := 2) (v := ?_) rfl (by kernel_rfl) (by kernel_rfl) (by kernel_rfl) (fun _ _ _ h => h) (Or.inl ⟨by rfl, ?_⟩) hHeld ?_
      rotate_left
      · rintro w' ⟨c0, r1, r2, c3, r4, r5⟩; go_simp; rfl
      try simp only [Act.put, List.setIfInBounds_toArray, List.set_cons_zero, List.set_cons_succ]
      refine takeL (i := 3) (v := ?_) rfl (by kernel_rfl) (by kernel_rfl) (by kernel_rfl) (fun _ _ _ h => h) (Or.inl ⟨by rfl, ?_⟩) hHeld ?_
      rotate_left
      · rintro w' ⟨c0, r1, r2, c3, r4, r5⟩; go_simp; rfl
      try simp only [Act.put, List.setIfInBounds_toArray, List.set_cons_zero, List.set_cons_succ]
      refine takeL (i := 4) (v := ?_) rfl (by kernel_rfl) (by kernel_rfl) (by kernel_rfl) (fun _ _ _ h => h) (Or.inl ⟨by rfl, ?_⟩) hHeld ?_
      rotate_left
      · rintro w' ⟨c0, r1, r2, c3, r4, r5⟩; go_simp; rfl
      try simp only [Act.put, List.setIfInBounds_toArray, List.set_cons_zero, List.set_cons_succ]
      refine takeL (i := 5) (v := ?_) rfl (by kernel_rfl) (by kernel_rfl) (by kernel_rfl) (fun _ _ _ h => h) (Or.inl ⟨by rfl, ?_⟩) hHeld ?_
      rotate_left
      · rintro w' ⟨c0, r1, r2, c3, r4, r5⟩; go_simp; rfl
      try simp only [Act.put, List.setIfInBounds_toArray, List.set_cons_zero, List.set_cons_succ]
      refine takeL (i := 6) (v := ?_) rfl (by kernel_rfl) (by kernel_rfl) (by kernel_rfl) (fun _ _ _ h => h) (Or.inl ⟨by rfl, ?_⟩) hHeld ?_
      rotate_left
      · rintro w' ⟨c0, r1, r2, c3, r4, r5⟩; go_simp; rfl
      try simp only [Act.put, List.setIfInBounds_toArray, List.set_cons_zero, List.set_cons_succ]
      refine takeL (i := 7) (v := ?_) rfl (by kernel_rfl) (by kernel_rfl) (by kernel_rfl) (fun _ _ _ h => h) (Or.inl ⟨by rfl, ?_⟩) hHeld ?_
      rotate_left
      · rintro w' ⟨c0, r1, r2, c3, r4, r5⟩; go_simp; rfl
      try simp only [Act.put, List.setIfInBounds_toArray, List.set_cons_zero, List.set_cons_succ]
      refine takeL (i := 8) (v := ?_) rfl (by kernel_rfl) (by kernel_rfl) (by kernel_rfl) (fun _ _ _ h => h) (Or.inl ⟨by rfl, ?_⟩) hHeld ?_
      rotate_left
      · rintro w' ⟨c0, r1, r2, c3, r4, r5⟩; go_simp; rfl
      try simp only [Act.put, List.setIfInBounds_toArray, List.set_cons_zero, List.set_cons_succ]
      refine takeL (i := 9) (v := ?_) rfl (by kernel_rfl) (by kernel_rfl) (by kernel_rfl) (fun _ _ _ h => h) (Or.inl ⟨by rfl, ?_⟩) hHeld ?_
      rotate_left
      · rintro w' ⟨c0, r1, r2, c3, r4, r5⟩; go_simp; rfl
      try simp only [Act.put, List.setIfInBounds_toArray, List.set_cons_zero, List.set_cons_succ]
      refine takeL (i := 10) (v := .bool false) rfl (by kernel_rfl) (by kernel_rfl) (by kernel_rfl) (fun _ _ _ h => h) (Or.inl ⟨by rfl, ?_⟩) hHeld ?_
      · rintro w' ⟨c0, r1, r2, c3, r4, r5⟩; go_simp; try rfl
      try simp only [Act.put, List.setIfInBounds_toArray, List.set_cons_zero, List.set_cons_succ]
      refine takeL (i := 11) (v := ?_) rfl (by kernel_rfl) (by kernel_rfl) (by kernel_rfl) (fun _ _ _ h => h) (Or.inl ⟨by rfl, ?_⟩) hHeld ?_
      rotate_left
      · rintro w' ⟨c0, r1, r2, c3, r4, r5⟩; go_simp; rfl
      try simp only [Act.put, List.setIfInBounds_toArray, List.set_cons_zero, List.set_cons_succ]
      refine takeL (i := 12) (v := ?_) rfl (by kernel_rfl) (by kernel_rfl) (by kernel_rfl) (fun _ _ _ h => h) (Or.inl ⟨by rfl, ?_⟩) hHeld ?_
      rotate_left
      · rintro w' ⟨c0, r1, r2, c3, r4, r5⟩; go_simp; rfl
      try simp only [Act.put, List.setIfInBounds_toArray, List.set_cons_zero, List.set_cons_succ]
      refine takeL (i := 13) (v := ?_) rfl (by kernel_rfl) (by kernel_rfl) (by kernel_rfl) (fun _ _ _ h => h) (Or.inl ⟨by rfl, ?_⟩) hHeld ?_
      rotate_left
      · rintro w' ⟨c0, r1, r2, c3, r4, r5⟩; go_simp; rfl
      try simp only [Act.put, List.setIfInBounds_toArray, List.set_cons_zero, List.set_cons_succ]
      refine takeL (i := 14) (v := ?_) rfl (by kernel_rfl) (by kernel_rfl) (by kernel_rfl) (fun _ _ _ h => h) (Or.inl ⟨by rfl, ?_⟩) hHeld ?_
      rotate_left
      · rintro w' ⟨c0, r1, r2, c3, r4, r5⟩; go_simp; rfl
      try simp only [Act.put, List.setIfInBounds_toArray, List.set_cons_zero, List.set_cons_succ]
      refine takeL (i := 15) (v := ?_) rfl (by kernel_rfl) (by kernel_rfl) (by kernel_rfl) (fun _ _ _ h => h) (Or.inl ⟨by rfl, ?_⟩) hHeld ?_
      rotate_left
      · rintro w' ⟨c0, r1, r2, c3, r4, r5⟩; go_simp; rfl
      try simp only [Act.put, List.setIfInBounds_toArray, List.set_cons_zero, List.set_cons_succ]
      refine takeL (i := 16) (v := .agg O.toArray) rfl (by kernel_rfl) (by kernel_rfl) (by kernel_rfl) (fun _ _ _ h => h) (yieldsIf_load_mid (by rfl) 68 _ rfl b1 (o1 + i * 41 + 1) (by rfl) O _ (fun w' h => h.r1) Tryz.underlying68 rfl hiO) hHeld ?_
      try simp only [Act.put, List.setIfInBounds_toArray, List.set_cons_zero, List.set_cons_succ]
      refine takeL (i := 17) (v := ?_) rfl (by kernel_rfl) (by kernel_rfl) (by kernel_rfl) (fun _ _ _ h => h) (Or.inl ⟨by rfl, ?_⟩) hHeld ?_
      rotate_left
      · rintro w' ⟨c0, r1, r2, c3, r4, r5⟩; go_simp; rfl
      try simp only [Act.put, List.setIfInBounds_toArray, List.set_cons_zero, List.set_cons_succ]
      refine takeL (i := 18) (v := ?_) rfl (by kernel_rfl) (by kernel_rfl) (by kernel_rfl) (fun _ _ _ h => h) (Or.inl ⟨by rfl, ?_⟩) hHeld ?_
      rotate_left
      · rintro w' ⟨c0, r1, r2, c3, r4, r5⟩; go_simp; rfl
      try simp only [Act.put, List.setIfInBounds_toArray, List.set_cons_zero, List.set_cons_succ]
      refine takeL (i := 19) (v := ?_) rfl (by kernel_rfl) (by kernel_rfl) (by kernel_rfl) (fun _ _ _ h => h) (Or.inl ⟨by rfl, ?_⟩) hHeld ?_
      rotate_left
      · rintro w' ⟨c0, r1, r2, c3, r4, r5⟩; go_simp; rfl
      try simp only [Act.put, List.setIfInBounds_toArray, List.set_cons_zero, List.set_cons_succ]
      refine takeL (i := 20) (v := ?_) rfl (by kernel_rfl) (by kernel_rfl) (by kernel_rfl) (fun _ _ _ h => h) (Or.inl ⟨by rfl, ?_⟩) hHeld ?_
      rotate_left
      · rintro w' ⟨c0, r1, r2, c3, r4, r5⟩; go_simp; rfl
      try simp only [Act.put, List.setIfInBounds_toArray, List.set_cons_zero, List.set_cons_succ]
      refine takeL (i := 21) (v := .agg O.toArray) rfl (by kernel_rfl) (by kernel_rfl) (by kernel_rfl) (fun _ _ _ h => h) (yieldsIf_load_mid (by rfl) 67 _ rfl b3 (o3 + i * 41 + 1) (by rfl) O _ (fun w' h => h.r4) Tryz.underlying67 rfl hiO7) hHeld ?_
      try simp only [Act.put, List.setIfInBounds_toArray, List.set_cons_zero, List.set_cons_succ]
      refine takeL (i := 22) (v := .bool false) rfl (by kernel_rfl) (by kernel_rfl) (by kernel_rfl) (fun _ _ _ h => h) (Or.inl ⟨by rfl, ?_⟩) hHeld ?_
      · rintro w' ⟨c0, r1, r2, c3, r4, r5⟩; go_simp; try rfl
      try simp only [Act.put, List.setIfInBounds_toArray, List.set_cons_zero, List.set_cons_succ]
      refine takeL (i := 23) (v := .bool false) rfl (by kernel_rfl) (by kernel_rfl) (by kernel_rfl) (fun _ _ _ h => h) (Or.inl ⟨by rfl, ?_⟩) hHeld ?_
      · rintro w' ⟨c0, r1, r2, c3, r4, r5⟩; go_simp; try rfl
      try simp only [Act.put, List.setIfInBounds_toArray, List.set_cons_zero, List.set_cons_succ]
      refine takeL (i := 24) (v := ?_) rfl (by kernel_rfl) (by kernel_rfl) (by kernel_rfl) (fun _ _ _ h => h) (Or.inl ⟨by rfl, ?_⟩) hHeld ?_
      rotate_left
      · rintro w' ⟨c0, r1, r2, c3, r4, r5⟩; go_simp; rfl
      try simp only [Act.put, List.setIfInBounds_toArray, List.set_cons_zero, List.set_cons_succ]
      refine takeL (i := 25) (v := ?_) rfl (by kernel_rfl) (by kernel_rfl) (by kernel_rfl) (fun _ _ _ h => h) (Or.inl ⟨by rfl, ?_⟩) hHeld ?_
      rotate_left
      · rintro w' ⟨c0, r1, r2, c3, r4, r5⟩; go_simp; rfl
      try simp only [Act.put, List.setIfInBounds_toArray, List.set_cons_zero, List.set_cons_succ]
      refine takeL (i := 26) (v := ?_) rfl (by kernel_rfl) (by kernel_rfl) (by kernel_rfl) (fun _ _ _ h => h) (Or.inl ⟨by rfl, ?_⟩) hHeld ?_
      rotate_left
      · rintro w' ⟨c0, r1, r2, c3, r4, r5⟩; go_simp; rfl
      try simp only [Act.put, List.setIfInBounds_toArray, List.set_cons_zero, List.set_cons_succ]
      refine takeL (i := 27) (v := ?_) rfl (by kernel_rfl) (by kernel_rfl) (by kernel_rfl) (fun _ _ _ h => h) (Or.inl ⟨by rfl, ?_⟩) hHeld ?_
      rotate_left
      · rintro w' ⟨c0, r1, r2, c3, r4, r5⟩; go_simp; rfl
      try simp only [Act.put, List.setIfInBounds_toArray, List.set_cons_zero, List.set_cons_succ]
      refine takeL (i := 28) (v := ?_) rfl (by kernel_rfl) (by kernel_rfl) (by kernel_rfl) (fun _ _ _ h => h) (Or.inl ⟨by rfl, ?_⟩) hHeld ?_
      rotate_left
      · rintro w' ⟨c0, r1, r2, c3, r4, r5⟩; go_simp; rfl
      try simp only [Act.put, List.setIfInBounds_toArray, List.set_cons_zero, List.set_cons_succ]
      refine takeL (i := 29) (v := .agg M.toArray) rfl (by kernel_rfl) (by kernel_rfl) (by kernel_rfl) (fun _ _ _ h => h) (yieldsIf_load_mid (by rfl) 68 _ rfl b1 (o1 + i * 41 + 21) (by rfl) M _ (fun w' h => h.r2) Tryz.underlying68 rfl hiM) hHeld ?_
      try simp only [Act.put, List.setIfInBounds_toArray, List.set_cons_zero, List.set_cons_succ]
      refine takeL (i := 30) (v := ?_) rfl (by kernel_rfl) (by kernel_rfl) (by kernel_rfl) (fun _ _ _ h => h) (Or.inl ⟨by rfl, ?_⟩) hHeld ?_
      rotate_left
      · rintro w' ⟨c0, r1, r2, c3, r4, r5⟩; go_simp; rfl
      try simp only [Act.put, List.setIfInBounds_toArray, List.set_cons_zero, List.set_cons_succ]
      refine takeL (i := 31) (v := ?_) rfl (by kernel_rfl) (by kernel_rfl) (by kernel_rfl) (fun _ _ _ h => h) (Or.inl ⟨by rfl, ?_⟩) hHeld ?_
      rotate_left
      · rintro w' ⟨c0, r1, r2, c3, r4, r5⟩; go_simp; rfl
      try simp only [Act.put, List.setIfInBounds_toArray, List.set_cons_zero, List.set_cons_succ]
      refine takeL (i := 32) (v := ?_) rfl (by kernel_rfl) (by kernel_rfl) (by kernel_rfl) (fun _ _ _ h => h) (Or.inl ⟨by rfl, ?_⟩) hHeld ?_
      rotate_left
      · rintro w' ⟨c0, r1, r2, c3, r4, r5⟩; go_simp; rfl
      try simp only [Act.put, List.setIfInBounds_toArray, List.set_cons_zero, List.set_cons_succ]
      refine takeL (i := 33) (v := ?_) rfl (by kernel_rfl) (by kernel_rfl) (by kernel_rfl) (fun _ _ _ h => h) (Or.inl ⟨by rfl, ?_⟩) hHeld ?_
      rotate_left
      · rintro w' ⟨c0, r1, r2, c3, r4, r5⟩; go_simp; rfl
      try simp only [Act.put, List.setIfInBounds_toArray, List.set_cons_zero, List.set_cons_succ]
      refine takeL (i := 34) (v := .agg M.toArray) rfl (by kernel_rfl) (by kernel_rfl) (by kernel_rfl) (fun _ _ _ h => h) (yieldsIf_load_mid (by rfl) 67 _ rfl b3 (o3 + i * 41 + 21) (by rfl) M _ (fun w' h => h.r5) Tryz.underlying67 rfl hiM7) hHeld ?_
      try simp only [Act.put, List.setIfInBounds_toArray, List.set_cons_zero, List.set_cons_succ]
      refine takeL (i := 35) (v := .bool false) rfl (by kernel_rfl) (by kernel_rfl) (by kernel_rfl) (fun _ _ _ h => h) (Or.inl ⟨by rfl, ?_⟩) hHeld ?_
      · rintro w' ⟨c0, r1, r2, c3, r4, r5⟩; go_simp; try rfl
      try simp only [Act.put, List.setIfInBounds_toArray, List.set_cons_zero, List.set_cons_succ]
      refine takeL (i := 36) (v := .bool false) rfl (by kernel_rfl) (by kernel_rfl) (by kernel_rfl) (fun _ _ _ h => h) (Or.inl ⟨by rfl, ?_⟩) hHeld ?_
      · rintro w' ⟨c0, r1, r2, c3, r4, r5⟩; go_simp; try rfl
      try simp only [Act.put, List.setIfInBounds_toArray, List.set_cons_zero, List.set_cons_succ]
      refine wpAnyH_done (by kernel_rfl) ?_ _
      clear hHeld
      go_wp2
      go_roundg (k - (i + 1))
      case measure => omega
      case rel => exact ⟨i + 1, by omega, rfl, by go_num, HSd⟩
    · have hlti : ¬ (i : Int) < (k : Int) := by omega
      have HF : Hid (Below G w wr) := hid (HB4.out.trans (HS.out.mono (HGS.out w4 HB4.out)))
      go_wp2
      go_ret
      exact ⟨rfl, HF.out⟩
end Go.Proofs.YtijeogdnjeamaaaGreatDoor
