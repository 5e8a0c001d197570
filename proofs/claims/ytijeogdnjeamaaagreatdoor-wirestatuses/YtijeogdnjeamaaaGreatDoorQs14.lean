import Derived.Test.YtijeogdnjeamaaaGreatDoorQs13
namespace Go.Proofs.YtijeogdnjeamaaaGreatDoor
open Go.RowKit
set_option linter.unusedVariables false
set_option linter.unusedSimpArgs false
def ResS (s : Str) (l : List Sta) (ev : Int) (ie : Value) : Prop :=
  (Sok s l ∧ ev = 0 ∧ ie = .nilIface) ∨ ((¬ ∃ l, Sok s l) ∧ (∃ ls, okL ls ∧ s = pktL ls) ∧ l = [] ∧ ev = 111 ∧ ie = .iface 37 (.int .i64 111)) ∨ ((¬ ∃ ls, okL ls ∧ s = pktL ls) ∧ l = [] ∧ ev = 110 ∧ ie = .iface 37 (.int .i64 110))
theorem ResS.cnt {s : Str} {l : List Sta} {ev : Int} {ie : Value} (h : ResS s l ev ie) : l.length ≤ 500 := by
  rcases h with ⟨h, _⟩ | ⟨_, _, rfl, _⟩ | ⟨_, rfl, _⟩
  · exact h.ok.2.2
  · simp
  · simp
theorem PostRBs.res {s : Str} {w w' : World} {e : Ending} (h : PostRBs s w w.heap.size e w') : ∃ l ev ie a c, ResS s l ev ie ∧ e = .returned (.tuple #[.slice a l.length c, ie]) ∧ BSt 57 w w' w.heap.size (.slice a l.length c) l := by
  obtain ⟨hb, ⟨l, v, h1, rfl, hv⟩ | ⟨h1, h2, rfl⟩ | ⟨h1, rfl⟩⟩ := h
  · obtain ⟨a, c, rfl, _⟩ := hv.px (d := st0) (encSt_len _)
    exact ⟨l, 0, .nilIface, a, c, .inl ⟨h1, rfl, rfl⟩, rfl, hv⟩
  · exact ⟨[], 111, _, none, 0, .inr (.inl ⟨h1, h2, rfl, rfl, rfl⟩), rfl, ⟨hb, ⟨rfl, .inl ⟨rfl, rfl⟩⟩, hb.size⟩⟩
  · exact ⟨[], 110, _, none, 0, .inr (.inr ⟨h1, rfl, rfl, rfl⟩), rfl, ⟨hb, ⟨rfl, .inl ⟨rfl, rfl⟩⟩, hb.size⟩⟩
theorem pst_nil (w : World) : PSt w none 0 [] := ⟨Nat.le_refl _, fun h => by simp at h, fun _ => rfl⟩
theorem PostRDs.res {s : Str} {w w' : World} {e : Ending} {l : List Sta} {ev : Int} {ie : Value} (hr : ResS s l ev ie) (h : PostRDs s w w.heap.size e w') : Below w.heap.size w w' ∧ ∃ a c, e = .returned (.tuple #[.slice a l.length c, .int .i64 ev]) ∧ PSt w' a c l := by
  obtain ⟨hb, ⟨l2, v, h1, rfl, hv⟩ | ⟨h1, h2, rfl⟩ | ⟨h1, rfl⟩⟩ := h
  · rcases hr with ⟨hr, rfl, rfl⟩ | ⟨hr, _⟩ | ⟨hr, _⟩
    · obtain rfl := sok_one hr h1
      obtain ⟨a, c, rfl, hp, _⟩ := hv.px (d := st0) (encSt_len _)
      exact ⟨hb, a, c, rfl, hp⟩
    · exact absurd ⟨l2, h1⟩ hr
    · exact absurd (sok_ls h1) hr
  · rcases hr with ⟨hr, rfl, rfl⟩ | ⟨hr, _, rfl, rfl, rfl⟩ | ⟨hr, _⟩
    · exact absurd ⟨l, hr⟩ h1
    · exact ⟨hb, none, 0, rfl, pst_nil w'⟩
    · exact absurd h2 hr
  · rcases hr with ⟨hr, rfl, rfl⟩ | ⟨hr, h2, _⟩ | ⟨hr, rfl, rfl, rfl⟩
    · exact absurd (sok_ls hr) h1
    · exact absurd h2 h1
    · exact ⟨hb, none, 0, rfl, pst_nil w'⟩
theorem ResS.tell {s : Str} {l : List Sta} {ev : Int} {ie : Value} (h : ResS s l ev ie) (W : World) (hg : Hg W) : Calls Tryz.prog 11 #[ie] W fun e w' => e = .returned (.int .i64 ev) ∧ Below W.heap.size W w' := by
  rcases h with ⟨_, rfl, rfl⟩ | ⟨_, _, _, rfl, rfl⟩ | ⟨_, _, rfl, rfl⟩
  · exact tell_nil W
  · exact tell_errno 111 W hg
  · exact tell_errno 110 W hg
structure Q4 (b o b2 o2 : Nat) (X : ByteArray) (er : Int) (W : World) : Prop where
  c0 : W.cell? ⟨b, o, none⟩ = some (.string X)
  c1 : W.cell? ⟨b, o + 1, none⟩ = some (.int .i64 er)
  c2 : W.cell? ⟨b2, o2, none⟩ = some (.string X)
  c3 : W.cell? ⟨b2, o2 + 1, none⟩ = some (.int .i64 er)
theorem pst_two {W : World} {a : Option Addr} {cap : Nat} {l : List Sta} (h : PSt W a cap l) {b off : Nat} (ha : a = some ⟨b, off, none⟩) (i : Nat) (hi : i < l.length) (x : Sta) (hx : l.getD i st0 = x) (X : ByteArray) (hX : ⟨x.1.toArray⟩ = X) : W.cell? ⟨b, off + i * 2, none⟩ = some (.string X) ∧ W.cell? ⟨b, off + i * 2 + 1, none⟩ = some (.int .i64 x.2) := by
  obtain ⟨b', off', e1, _, e3⟩ := h.at_ (by omega)
  rw [ha] at e1
  cases e1
  have h1 := e3 i hi
  rw [hx] at h1
  refine ⟨?_, h1 1 _ rfl⟩
  rw [← hX]
  exact h1 0 _ rfl
set_option maxRecDepth 20000 in
set_option maxHeartbeats 8000000 in
theorem statuses_any {w : World} (a : Option Addr) (cap : Nat) (s : Str) (hP : PB w a cap s) (hl : s.length ≤ 8000) (hg : Hg w) (he : Ers w) (hd : Db w) (hm : Nm.Mx w) (htb : Tab w) : Calls Tryz.prog 25 #[.slice a s.length cap] w fun e w' => e = .returned (.bool true) ∧ Below w.heap.size w w' := by
  obtain ⟨n, HN⟩ : ∃ n, Hid (s.length = n) := ⟨_, rfl⟩
  obtain ⟨G, HG⟩ : ∃ g, Hid (w.heap.size = g) := ⟨_, rfl⟩
  have hG0 : 0 < G := by rw [← HG.out]; exact hg.lt
  have HPW : Hid (∀ W, Below G w W → PB W a cap s) := hid (fun W hW => hP.below (by rw [HG.out]; exact hW))
  have HGW : Hid (∀ W, Below G w W → Hg W) := hid (fun W hW => hg.below hW hG0)
  have HEW : Hid (∀ W, Below G w W → Ers W ∧ Db W ∧ Nm.Mx W ∧ Tab W) := hid (fun W hW => by
    have hbw : Below w.heap.size w W := by rw [HG.out]; exact hW
    exact ⟨he.below hbw, hd.b hW HG.out.symm, Mx_kept hm (grown_of_below hbw none) (by simp), htb.below hbw⟩)
  have HSB : Hid (0 < s.length → ∃ b off, a = some ⟨b, off, none⟩ ∧ b < G) := hid (fun h0 => by
    obtain ⟨b, off, e1, e2, _⟩ := hP.at_ h0
    exact ⟨b, off, e1, by rw [← HG.out]; exact e2⟩)
  have HL := hid hl
  have C17 : Hid (Calls Tryz.prog 17 #[.slice a n cap] w fun e w' => e = .returned (.slice (some ⟨G, 0, none⟩) n (n + 2)) ∧ Below G w w' ∧ Room w' G (nums s)) := hid (by
    have := roomy_any a cap (nums s) w (by rw [nums_len]; omega) (fun h0 => by
      rw [nums_len] at h0
      obtain ⟨b, off, e1, e2, _⟩ := hP.at_ h0
      subst e1
      exact ⟨b, off, rfl, e2, pb_at hP⟩)
    rw [nums_len, HN.out, HG.out] at this
    exact this)
  have C19 : Hid (∀ W, Below G w W → Room W G (nums s) → Calls Tryz.prog 19 #[.slice (some ⟨G, 0, none⟩) n (n + 2), .slice a n cap] W fun e w' => e = .returned (.bool true) ∧ W.grownBy w' (some G)) := hid (fun W hW hr => by
    have := still_keep a cap G (nums s) W (by rw [nums_len]; omega) (nums_b s) hr (fun h0 => by
      rw [nums_len] at h0
      obtain ⟨b, off, e1, e2⟩ := HSB.out h0
      subst e1
      exact ⟨b, off, rfl, e2, pb_at (HPW.out W hW)⟩)
    rw [nums_len, HN.out] at this
    exact this)
  have C40 : Hid (∀ W, Below G w W → Room W G (nums s) → Calls Tryz.prog 52 #[.slice (some ⟨G, 0, none⟩) n (n + 2)] W (PostRBs s W W.heap.size)) := hid (fun W hW hr => by
    obtain ⟨h1, h2, h3, h4⟩ := HEW.out W hW
    have := readStatusB_any (some ⟨G, 0, none⟩) (s.length + 2) s hr.pb HL.out h1 h2 h3 h4
    rw [HN.out] at this
    exact this)
  have C41 : Hid (∀ W, Below G w W → Calls Tryz.prog 53 #[.slice a n cap] W (PostRDs s W W.heap.size)) := hid (fun W hW => by
    have := refReadStatus_any a cap s (HPW.out W hW) HL.out
    rw [HN.out] at this
    exact this)
  have HGS : Hid (∀ X, Below G w X → G ≤ X.heap.size) := hid (fun X hX => by have := hX.size; have := HG.out; omega)
  rw [HN.out, HG.out]
  clear hP hl hg he hd hm htb
  go_enter Tryz.func25, Tryz.ntmps25
  go_wp2_with fail
  refine C17.out.mono ?_
  rintro e w1 ⟨rfl, hb1, hr1⟩
  have HB1 := hid hb1
  have HR1 := hid hr1
  have hG1 : G < w1.heap.size := hr1.lt
  clear hb1 hr1
  go_wp2_with fail
  refine (C40.out w1 HB1.out HR1.out).mono ?_
  intro e w2 h40
  obtain ⟨l, ev, ie, a1, c1, hres, rfl, hv1⟩ := h40.res
  have HB2 : Hid (Below G w w2) := hid (HB1.out.trans (h40.1.mono (by omega)))
  have HR2 : Hid (Room w2 G (nums s)) := hid (HR1.out.below h40.1)
  obtain ⟨k, HK⟩ : ∃ n, Hid (l.length = n) := ⟨_, rfl⟩
  have hk5 : k ≤ 500 := by rw [← HK.out]; exact hres.cnt
  rw [HK.out] at hv1 ⊢
  have HV1 := hid hv1
  have HRS := hid hres
  clear h40 hv1 hres
  go_wp2_with fail
  refine (C19.out w2 HB2.out HR2.out).mono ?_
  rintro e w3 ⟨rfl, hg3⟩
  have HB3 : Hid (Below G w w3) := hid (HB2.out.grown hg3 (HGS.out w2 HB2.out) (fun q hq => by cases hq; exact Nat.le_refl _))
  have HG3 := hid hg3
  clear hg3
  go_wp2_with fail
  refine (C41.out w3 HB3.out).mono ?_
  intro e w4 h41
  obtain ⟨hb4, a3, c3, rfl, hp3⟩ := PostRDs.res HRS.out h41
  have HB4 : Hid (Below G w w4) := hid (HB3.out.trans (hb4.mono (HGS.out w3 HB3.out)))
  have hk1 := own_keep (own_keep HV1.out.own HG3.out (fun j e => by cases e; omega)) (grown_of_below hb4 none) (fun j e => by cases e)
  have hbx : BSt 57 w4 w4 (min w1.heap.size w4.heap.size) (.slice a1 k c1) l := ⟨Below.refl _ _, base_mono hk1 (Nat.min_le_left _ _), Nat.min_le_right _ _⟩
  have hp1 : PSt w4 a1 c1 l := by
    obtain ⟨ax, cx, e1, hp, _⟩ := hbx.px (d := st0) (encSt_len _)
    rw [HK.out] at e1
    injection e1 with e2 e3 e4
    rw [e2, e4]
    exact hp
  have HPP : Hid (∀ W, Below w4.heap.size w4 W → PSt W a1 c1 l ∧ PSt W a3 c3 l) := hid (fun W hW => ⟨hp1.below hW, hp3.below hW⟩)
  have HA1 : Hid (0 < k → ∃ b off, a1 = some ⟨b, off, none⟩) := hid (fun h => by
    obtain ⟨b, off, e1, _⟩ := hp1.at_ (by rw [HK.out]; exact h)
    exact ⟨b, off, e1⟩)
  have HA3 : Hid (0 < k → ∃ b off, a3 = some ⟨b, off, none⟩) := hid (fun h => by
    obtain ⟨b, off, e1, _⟩ := hp3.at_ (by rw [HK.out]; exact h)
    exact ⟨b, off, e1⟩)
  rw [HK.out]
  have DT : Hid (Calls Tryz.prog 11 #[ie] w4 fun e w' => e = .returned (.int .i64 ev) ∧ Below w4.heap.size w4 w') := hid (HRS.out.tell w4 (HGW.out w4 HB4.out))
  have hee : (ev != ev) = false := by simp
  clear hb4 h41 hk1 hbx hp1 hp3
  go_wp2_with fail
  refine DT.out.mono ?_
  rintro e w5 ⟨rfl, hb5⟩
  have HB5 := hid hb5
  have S0 : Hid (Below w4.heap.size w4 w5) := hid hb5
  clear hb5
  go_wp2_with fail
  go_loopg [9] k (fun gg kv wr => ∃ i : Nat, i ≤ k ∧ gg = k - i ∧ kv = .int .i64 i ∧ Hid (Below w4.heap.size w4 wr))
  case atStart => exact ⟨0, Nat.zero_le _, rfl, rfl, S0⟩
  case round =>
    obtain ⟨i, hi, hkk, rfl, HS⟩ := hrel
    by_cases hlt : i < k
    · have hlti : (i : Int) < (k : Int) := by omega
      obtain ⟨b1, o1, e1⟩ := HA1.out (by omega)
      obtain ⟨b3, o3, e3⟩ := HA3.out (by omega)
      obtain ⟨x, HX⟩ : ∃ x, Hid (l.getD i st0 = x) := ⟨_, rfl⟩
      obtain ⟨nm, er⟩ := x
      obtain ⟨X, HXB⟩ : ∃ X : ByteArray, Hid (⟨nm.toArray⟩ = X) := ⟨_, hid rfl⟩
      have HSd : Hid (Below w4.heap.size w4 wr.drew) := hid (HS.out.drew)
      have hSd : Q4 b1 (o1 + i * 2) b3 (o3 + i * 2) X er wr.drew := by
        obtain ⟨h1, h2⟩ := pst_two (HPP.out _ HSd.out).1 e1 i (by rw [HK.out]; exact hlt) _ HX.out X HXB.out
        obtain ⟨h3, h4⟩ := pst_two (HPP.out _ HSd.out).2 e3 i (by rw [HK.out]; exact hlt) _ HX.out X HXB.out
        exact ⟨h1, h2, h3, h4⟩
      have HQN := hid hSd
      subst e1 e3
      have hXX : (X.toList != X.toList) = false := by simp
      have heE : (er != er) = false := by simp
      clear hSd
      go_wp2_with fail
      refine wp_region_held_drew (S := Q4 b1 (o1 + i * 2) b3 (o3 + i * 2) X er) (by kernel_rfl) HQN.out (fun hHeld => ?_)
      generalize wr.drew = u0 at hHeld HSd HQN ⊢
      refine takeL (i := 0) (v := ?_) rfl (by kernel_rfl) (by kernel_rfl) (by kernel_rfl) (fun _ _ _ h => h) (Or.inl ⟨by rfl, ?_⟩) hHeld ?_
      rotate_left
      · rintro w' ⟨c0, c1, c2, c3⟩; go_simp; rfl
      try simp only [Act.put, List.setIfInBounds_toArray, List.set_cons_zero, List.set_cons_succ]
      refine takeL (i := 1) (v := ?_) rfl (by kernel_rfl) (by kernel_rfl) (by kernel_rfl) (fun _ _ _ h => h) (Or.inl ⟨by rfl, ?_⟩) hHeld ?_
      rotate_left
      · rintro w' ⟨c0, c1, c2, c3⟩; go_simp; rfl
      try simp only [Act.put, List.setIfInBounds_toArray, List.set_cons_zero, List.set_cons_succ]
      refine takeL (i := 2) (v := ?_) rfl (by kernel_rfl) (by kernel_rfl) (by kernel_rfl) (fun _ _ _ h => h) (Or.inl ⟨by rfl, ?_⟩) hHeld ?_
      rotate_left
      · rintro w' ⟨c0, c1, c2, c3⟩; go_simp; rfl
      try simp only [Act.put, List.setIfInBounds_toArray, List.set_cons_zero, List.set_cons_succ]
      refine takeL (i := 3) (v := ?_) rfl (by kernel_rfl) (by kernel_rfl) (by kernel_rfl) (fun _ _ _ h => h) (Or.inl ⟨by rfl, ?_⟩) hHeld ?_
      rotate_left
      · rintro w' ⟨c0, c1, c2, c3⟩; go_simp; rfl
      try simp only [Act.put, List.setIfInBounds_toArray, List.set_cons_zero, List.set_cons_succ]
      refine takeL (i := 4) (v := ?_) rfl (by kernel_rfl) (by kernel_rfl) (by kernel_rfl) (fun _ _ _ h => h) (Or.inl ⟨by rfl, ?_⟩) hHeld ?_
      rotate_left
      · rintro w' ⟨c0, c1, c2, c3⟩; go_simp; rfl
      try simp only [Act.put, List.setIfInBounds_toArray, List.set_cons_zero, List.set_cons_succ]
      refine takeL (i := 5) (v := ?_) rfl (by kernel_rfl) (by kernel_rfl) (by kernel_rfl) (fun _ _ _ h => h) (Or.inl ⟨by rfl, ?_⟩) hHeld ?_
      rotate_left
      · rintro w' ⟨c0, c1, c2, c3⟩; go_simp; rfl
      try simp only [Act.put, List.setIfInBounds_toArray, List.set_cons_zero, List.set_cons_succ]
      refine takeL (i := 6) (v := ?_) rfl (by kernel_rfl) (by kernel_rfl) (by kernel_rfl) (fun _ _ _ h => h) (Or.inl ⟨by rfl, ?_⟩) hHeld ?_
      rotate_left
      · rintro w' ⟨c0, c1, c2, c3⟩; go_simp; rfl
      try simp only [Act.put, List.setIfInBounds_toArray, List.set_cons_zero, List.set_cons_succ]
      refine takeL (i := 7) (v := ?_) rfl (by kernel_rfl) (by kernel_rfl) (by kernel_rfl) (fun _ _ _ h => h) (Or.inl ⟨by rfl, ?_⟩) hHeld ?_
      rotate_left
      · rintro w' ⟨c0, c1, c2, c3⟩; go_simp; rfl
      try simp only [Act.put, List.setIfInBounds_toArray, List.set_cons_zero, List.set_cons_succ]
      refine takeL (i := 8) (v := ?_) rfl (by kernel_rfl) (by kernel_rfl) (by kernel_rfl) (fun _ _ _ h => h) (Or.inl ⟨by rfl, ?_⟩) hHeld ?_
      rotate_left
      · rintro w' ⟨c0, c1, c2, c3⟩; go_simp; rfl
      try simp only [Act.put, List.setIfInBounds_toArray, List.set_cons_zero, List.set_cons_succ]
      refine takeL (i := 9) (v := ?_) rfl (by kernel_rfl) (by kernel_rfl) (by kernel_rfl) (fun _ _ _ h => h) (Or.inl ⟨by rfl, ?_⟩) hHeld ?_
      rotate_left
      · rintro w' ⟨c0, c1, c2, c3⟩; go_simp; rfl
      try simp only [Act.put, List.setIfInBounds_toArray, List.set_cons_zero, List.set_cons_succ]
      refine takeL (i := 10) (v := .bool false) rfl (by kernel_rfl) (by kernel_rfl) (by kernel_rfl) (fun _ _ _ h => h) (Or.inl ⟨by rfl, ?_⟩) hHeld ?_
      · rintro w' ⟨c0, c1, c2, c3⟩; go_simp; try rfl
      try simp only [Act.put, List.setIfInBounds_toArray, List.set_cons_zero, List.set_cons_succ]
      refine takeL (i := 11) (v := ?_) rfl (by kernel_rfl) (by kernel_rfl) (by kernel_rfl) (fun _ _ _ h => h) (Or.inl ⟨by rfl, ?_⟩) hHeld ?_
      rotate_left
      · rintro w' ⟨c0, c1, c2, c3⟩; go_simp; rfl
      try simp only [Act.put, List.setIfInBounds_toArray, List.set_cons_zero, List.set_cons_succ]
      refine takeL (i := 12) (v := ?_) rfl (by kernel_rfl) (by kernel_rfl) (by kernel_rfl) (fun _ _ _ h => h) (Or.inl ⟨by rfl, ?_⟩) hHeld ?_
      rotate_left
      · rintro w' ⟨c0, c1, c2, c3⟩; go_simp; rfl
      try simp only [Act.put, List.setIfInBounds_toArray, List.set_cons_zero, List.set_cons_succ]
      refine takeL (i := 13) (v := ?_) rfl (by kernel_rfl) (by kernel_rfl) (by kernel_rfl) (fun _ _ _ h => h) (Or.inl ⟨by rfl, ?_⟩) hHeld ?_
      rotate_left
      · rintro w' ⟨c0, c1, c2, c3⟩; go_simp; rfl
      try simp only [Act.put, List.setIfInBounds_toArray, List.set_cons_zero, List.set_cons_succ]
      refine takeL (i := 14) (v := ?_) rfl (by kernel_rfl) (by kernel_rfl) (by kernel_rfl) (fun _ _ _ h => h) (Or.inl ⟨by rfl, ?_⟩) hHeld ?_
      rotate_left
      · rintro w' ⟨c0, c1, c2, c3⟩; go_simp; rfl
      try simp only [Act.put, List.setIfInBounds_toArray, List.set_cons_zero, List.set_cons_succ]
      refine takeL (i := 15) (v := ?_) rfl (by kernel_rfl) (by kernel_rfl) (by kernel_rfl) (fun _ _ _ h => h) (Or.inl ⟨by rfl, ?_⟩) hHeld ?_
      rotate_left
      · rintro w' ⟨c0, c1, c2, c3⟩; go_simp; rfl
      try simp only [Act.put, List.setIfInBounds_toArray, List.set_cons_zero, List.set_cons_succ]
      refine takeL (i := 16) (v := ?_) rfl (by kernel_rfl) (by kernel_rfl) (by kernel_rfl) (fun _ _ _ h => h) (Or.inl ⟨by rfl, ?_⟩) hHeld ?_
      rotate_left
      · rintro w' ⟨c0, c1, c2, c3⟩; go_simp; rfl
      try simp only [Act.put, List.setIfInBounds_toArray, List.set_cons_zero, List.set_cons_succ]
      refine takeL (i := 17) (v := ?_) rfl (by kernel_rfl) (by kernel_rfl) (by kernel_rfl) (fun _ _ _ h => h) (Or.inl ⟨by rfl, ?_⟩) hHeld ?_
      rotate_left
      · rintro w' ⟨c0, c1, c2, c3⟩; go_simp; rfl
      try simp only [Act.put, List.setIfInBounds_toArray, List.set_cons_zero, List.set_cons_succ]
      refine takeL (i := 18) (v := ?_) rfl (by kernel_rfl) (by kernel_rfl) (by kernel_rfl) (fun _ _ _ h => h) (Or.inl ⟨by rfl, ?_⟩) hHeld ?_
      rotate_left
      · rintro w' ⟨c0, c1, c2, c3⟩; go_simp; rfl
      try simp only [Act.put, List.setIfInBounds_toArray, List.set_cons_zero, List.set_cons_succ]
      refine takeL (i := 19) (v := ?_) rfl (by kernel_rfl) (by kernel_rfl) (by kernel_rfl) (fun _ _ _ h => h) (Or.inl ⟨by rfl, ?_⟩) hHeld ?_
      rotate_left
      · rintro w' ⟨c0, c1, c2, c3⟩; go_simp; rfl
      try simp only [Act.put, List.setIfInBounds_toArray, List.set_cons_zero, List.set_cons_succ]
      refine takeL (i := 20) (v := ?_) rfl (by kernel_rfl) (by kernel_rfl) (by kernel_rfl) (fun _ _ _ h => h) (Or.inl ⟨by rfl, ?_⟩) hHeld ?_
      rotate_left
      · rintro w' ⟨c0, c1, c2, c3⟩; go_simp; rfl
      try simp only [Act.put, List.setIfInBounds_toArray, List.set_cons_zero, List.set_cons_succ]
      refine takeL (i := 21) (v := ?_) rfl (by kernel_rfl) (by kernel_rfl) (by kernel_rfl) (fun _ _ _ h => h) (Or.inl ⟨by rfl, ?_⟩) hHeld ?_
      rotate_left
      · rintro w' ⟨c0, c1, c2, c3⟩; go_simp; rfl
      try simp only [Act.put, List.setIfInBounds_toArray, List.set_cons_zero, List.set_cons_succ]
      refine takeL (i := 22) (v := .bool false) rfl (by kernel_rfl) (by kernel_rfl) (by kernel_rfl) (fun _ _ _ h => h) (Or.inl ⟨by rfl, ?_⟩) hHeld ?_
      · rintro w' ⟨c0, c1, c2, c3⟩; go_simp; try rfl
      try simp only [Act.put, List.setIfInBounds_toArray, List.set_cons_zero, List.set_cons_succ]
      refine takeL (i := 23) (v := .bool false) rfl (by kernel_rfl) (by kernel_rfl) (by kernel_rfl) (fun _ _ _ h => h) (Or.inl ⟨by rfl, ?_⟩) hHeld ?_
      · rintro w' ⟨c0, c1, c2, c3⟩; go_simp; try rfl
      try simp only [Act.put, List.setIfInBounds_toArray, List.set_cons_zero, List.set_cons_succ]
      refine wpAnyH_done (by kernel_rfl) ?_ _
      clear hHeld
      go_wp2
      go_roundg (k - (i + 1))
      case measure => omega
      case rel => exact ⟨i + 1, by omega, rfl, by go_num, HSd⟩
    · have hlti : ¬ (i : Int) < (k : Int) := by omega
      have HF : Hid (Below G w wr) := hid (HB4.out.trans (HS.out.mono (HGS.out w4 HB4.out)))
      go_wp2
      go_ret
      exact ⟨rfl, HF.out⟩
end Go.Proofs.YtijeogdnjeamaaaGreatDoor
namespace Go.Proofs.YtijeogdnjeamaaaGreatDoor
open Go.RowKit
set_option linter.unusedVariables false
set_option linter.unusedSimpArgs false
section
variable {α : Type} {enc : α → List Value} {k : Nat} {d : α}
theorem exec_bx_sl {w w0 : World} {o : Oper} {a : Act} (s x : Operand) (t e : TypeId) (hu : Tryz.prog.underlying t = some (.slice e)) {z : Value} {by_ : Nat} (hin : (Tryz.prog.info? e).map (fun i => (i.zero, i.size, i.bytes)) = some (some z, k, by_)) (hz : z.cells.size = k) (hk : 0 < k) (hby : by_ ≤ 100)
    (hone : ∀ x, ∀ v ∈ enc x, v.oneCell' = true)
    (ho : o.op = .call { callee := .builtin .append, args := #[s, x], argTypes := #[t, t] }) (B : Nat) (v : Value) (l : List α) (hs : a.eval s = v) (h : Bx enc k e w0 w B v l)
    (ax : Option Addr) (cx : Nat) (m : List α) (hx : a.eval x = .slice ax m.length cx) (hP : Px enc k d w ax cx m) (hw : ∀ x ∈ m, (enc x).length = k) (hl : l.length + m.length ≤ 30000) :
    ∃ v' w', (execOp a.eval o).run Tryz.prog w = .ok (.value v') w' ∧ Bx enc k e w0 w' B v' (l ++ m) ∧ w.grownBy w' v.ownBlock := by
  obtain ⟨i, hi, hz0, hz1, hz2⟩ := info_parts hin
  have key : ∀ v' w', (Builtin.append_ #[t, t] o.type #[v, .slice ax m.length cx]).run Tryz.prog w = .ok v' w' → (execOp a.eval o).run Tryz.prog w = .ok (.value v') w' := fun v' w' hr => by
    unfold execOp
    simp only [ho, resolve, invoke, builtin, Sem.run_bind, Sem.run_pure, Result.andThen_ok, List.map_toArray, List.map_cons, List.map_nil, hs, hx, hr]
  cases ax with
  | none =>
    have hc : cx = 0 := hP.nil rfl
    have hcl := hP.capl
    obtain rfl : m = [] := List.length_eq_zero_iff.1 (by omega)
    subst hc
    exact ⟨v, w, key _ _ (run_append_owned_none (P := Tryz.prog) w B t o.type e i k hu hi v _ _ h.own), by simpa using h, ⟨rfl, rfl, rfl, Nat.le_refl _, fun _ _ _ => rfl⟩⟩
  | some ad =>
    obtain ⟨bk, of, fr⟩ := ad
    by_cases h0 : m.length = 0
    · obtain rfl : m = [] := List.length_eq_zero_iff.1 h0
      obtain ⟨v', w', hr, h1, h2, _⟩ := run_append_own_at (P := Tryz.prog) w B t o.type e i z k by_ hu hi hz0 hz1 hz2 hz hk v _ _ h.own ⟨bk, of, fr⟩ 0 cx [] (by simp) (fun j u hj => by cases hj) (fun u hu => by cases hu) (by unfold maxLen; omega) (by have h2 := Nat.mul_le_mul hl hby; exact Nat.le_trans h2 (by decide)) h.le
      refine ⟨v', w', key _ _ hr, ⟨h.below.grown h2 h.le (fun k hk => (own_lt h.own k hk).1), ?_, Nat.le_trans h.le h2.size⟩, h2⟩
      simpa using h1
    · obtain ⟨b', off', e1, _⟩ := hP.at_ (by omega)
      cases e1
      obtain ⟨v', w', hr, h1, h2, _⟩ := run_append_own_at (P := Tryz.prog) w B t o.type e i z k by_ hu hi hz0 hz1 hz2 hz hk v _ _ h.own ⟨bk, of, none⟩ m.length cx (m.flatMap enc) (fX_len m hw) (hP.cells hk hw) (fX_one m hone) (by unfold maxLen; omega) (by have h2 := Nat.mul_le_mul hl hby; exact Nat.le_trans h2 (by decide)) h.le
      refine ⟨v', w', key _ _ hr, ⟨h.below.grown h2 h.le (fun k hk => (own_lt h.own k hk).1), ?_, Nat.le_trans h.le h2.size⟩, h2⟩
      rw [List.length_append, List.flatMap_append]
      exact h1
end
theorem exec_bS1 {P : Program} {o : Oper} {a : Act} {w w' : World} (t len : Nat) (x : Operand) (ho : o.op = .buildSlice t len #[(0, x)]) (u1 v : Value) (h1 : a.eval x = u1) (hr : (Instr.buildSlice t len #[(0, u1)]).run P w = .ok v w') : (execOp a.eval o).run P w = .ok (.value v) w' := by
  unfold execOp
  simp [ho, h1, hr, Result.andThen]
theorem exec_bd2 {P : Program} {o : Oper} {a : Act} {w w' : World} (t : Nat) (x y : Operand) (ho : o.op = .build t #[(0, x), (1, y)]) (u1 u2 v : Value) (h1 : a.eval x = u1) (h2 : a.eval y = u2) (hr : (Instr.build t #[(0, u1), (1, u2)]).run P w = .ok v w') : (execOp a.eval o).run P w = .ok (.value v) w' := by
  unfold execOp
  simp [ho, h1, h2, hr, Result.andThen]
theorem step_app55 {w w0 : World} {ops : Array Oper} {o : Oper} {a : Act} {KK : Act → World → Prop} {Q : Exit → Act → World → Prop} {E : Prop} (hg : o.guard = none) (s x : Operand) (ho : o.op = .call { callee := .builtin .append, args := #[s, x], argTypes := #[55, 55] }) (B : Nat) (v : Value) (l : List Sta) (hs : a.eval s = v) (h : BSt 59 w0 w B v l)
    (ax : Option Addr) (cx : Nat) (m : List Sta) (hx : a.eval x = .slice ax m.length cx) (hP : PSt w ax cx m) (hl : l.length + m.length ≤ 30000) (hK : ∀ v' w', BSt 59 w0 w' B v' (l ++ m) → KK (a.put o.dst v') w') :
    if Region.wanted o (yielded ops a.tmps) = true then Oper.wp Tryz.prog o a w KK Q else E := by
  obtain ⟨v', w', hr, hb, _⟩ := exec_bx_sl (enc := encSt) (k := 2) (d := st0) s x 55 59 Tryz.underlying55 info59 rfl (by decide) (by decide) encSt_one ho B v l hs h ax cx m hx hP (encSt_len _) hl
  exact step_exec hg v' hr (hK v' w' hb)
theorem Bx.drew {α : Type} {enc : α → List Value} {k : Nat} {e : TypeId} {w0 w : World} {B : Nat} {v : Value} {l : List α} (h : Bx enc k e w0 w B v l) : Bx enc k e w0 w.drew B v l := h.carry (Below.refl _ _).drew
set_option maxRecDepth 20000 in
theorem walkS_long (a0 a2 : Option Addr) (n0 n2 c0 c2 : Nat) (w : World) (h : 60 < n0 ∨ 6000 < n2) : Calls Tryz.prog 6 #[.slice a0 n0 c0, .slice a2 n2 c2] w fun e w' => e = .returned (.bool true) ∧ Below w.heap.size w w' := by
  by_cases h0 : 60 < n0
  · have hi : (60 : Int) < (n0 : Int) := by omega
    go_enter Tryz.func6, Tryz.ntmps6
    go_wp2
    go_ret
    exact ⟨rfl, Below.refl _ _⟩
  · have hi : ¬ (60 : Int) < (n0 : Int) := by omega
    have hi2 : (6000 : Int) < (n2 : Int) := by omega
    go_enter Tryz.func6, Tryz.ntmps6
    go_wp2
    go_ret
    exact ⟨rfl, Below.refl _ _⟩
set_option maxRecDepth 20000 in
set_option maxHeartbeats 4000000 in
theorem walkS {w : World} (a : Option Addr) (cap : Nat) (l : List Sta) (hP : PSt w a cap l) (hf : FitS l) (hn : l.length ≤ 60) (ab : Option Addr) (cb : Nat) (s : Str) (hB : PB w ab cb s) (hl : s.length ≤ 6000) (hg : Hg w) (he : Ers w) (hd : Db w) (hm : Nm.Mx w) (htb : Tab w) :
    Calls Tryz.prog 6 #[.slice a l.length cap, .slice ab s.length cb] w fun e w' => e = .returned (.bool true) ∧ Below w.heap.size w w' := by
  obtain ⟨n, HN⟩ : ∃ n, Hid (l.length = n) := ⟨_, rfl⟩
  obtain ⟨k, HK⟩ : ∃ n, Hid (s.length = n) := ⟨_, rfl⟩
  obtain ⟨G, HG⟩ : ∃ n, Hid (w.heap.size = n) := ⟨_, rfl⟩
  have hG0 : 0 < G := by rw [← HG.out]; exact hg.lt
  have hn6 : n ≤ 60 := by rw [← HN.out]; exact hn
  have hni : ¬ (60 : Int) < (n : Int) := by omega
  have hki : ¬ (6000 : Int) < (k : Int) := by have := HK.out; omega
  have HGW : Hid (∀ X, Below G w X → Hg X) := hid (fun X hX => hg.below hX hG0)
  have HEW : Hid (∀ W, Below G w W → Ers W ∧ Db W ∧ Nm.Mx W ∧ Tab W) := hid (fun W hW => by
    have hbw : Below w.heap.size w W := by rw [HG.out]; exact hW
    exact ⟨he.below hbw, hd.b hW HG.out.symm, Mx_kept hm (grown_of_below hbw none) (by simp), htb.below hbw⟩)
  have HGS : Hid (∀ X, Below G w X → G ≤ X.heap.size) := hid (fun X hX => by have := hX.size; have := HG.out; omega)
  have HPP : Hid (∀ X, Below G w X → PSt X a cap l) := hid (fun X hX => hP.below (by rw [HG.out]; exact hX))
  have C23 : Hid (∀ X, Below G w X → Calls Tryz.prog 23 #[.slice a n cap] X (PostWSt l X)) := hid (fun X hX => by
    obtain ⟨h1, h2, h3, h4⟩ := HEW.out X hX
    rw [← HN.out]
    exact writeStatus_any a cap l (HPP.out X hX) hf h3 h4 h2)
  have C24 : Hid (∀ (X : World) (x : Option Addr) (cx : Nat), PSt X x cx l → Calls Tryz.prog 24 #[.slice x n cx] X (PostWDs l X X.heap.size)) := hid (fun X x cx h1 => by
    rw [← HN.out]
    exact refWriteStatus_any x cx l h1 hf)
  have C25 : Hid (∀ (X : World) (x : Option Addr) (cx : Nat) (u : Str) (q : Nat), Hid (u.length = q) → Below G w X → PB X x cx u → u.length ≤ 8000 → Calls Tryz.prog 25 #[.slice x q cx] X fun e w' => e = .returned (.bool true) ∧ Below X.heap.size X w') := hid (fun X x cx u q hq hX hp hu => by
    obtain ⟨h1, h2, h3, h4⟩ := HEW.out X hX
    rw [← hq.out]
    exact statuses_any x cx u hp hu (HGW.out X hX) h1 h2 h3 h4)
  have HPB : Hid (∀ X, Below G w X → PB X ab cb s) := hid (fun X hX => hB.below (by rw [HG.out]; exact hX))
  have HSL : Hid (s.length ≤ 8000) := hid (by omega)
  have HBL : Hid (OkS l → (stB l).length ≤ 8000) := hid (fun h => by
    have h1 := stB_blen l h.1
    rw [stB_parts, List.length_append]
    simp only [List.length_cons, List.length_nil]
    omega)
  have HPL : Hid (0 < n → ∃ b off, a = some ⟨b, off, none⟩) := hid (fun h => by
    obtain ⟨b, off, e1, _⟩ := hP.at_ (by rw [HN.out]; exact h)
    exact ⟨b, off, e1⟩)
  have S0 : Hid (BSt 59 w w G (.slice none 0 0) (l.take 0)) := hid ⟨Below.refl _ _, ⟨rfl, .inl ⟨rfl, rfl⟩⟩, by rw [HG.out]; exact Nat.le_refl _⟩
  rw [HN.out, HK.out, HG.out]
  clear hP hf hn hB hl hg he hd hm htb
  go_enter Tryz.func6, Tryz.ntmps6
  go_wp2_with fail
  go_loopg [5, 6] n (fun gg ov iv wr => ∃ i : Nat, i ≤ n ∧ gg = n - i ∧ iv = .int .i64 i ∧ Hid (BSt 59 w wr G ov (l.take i)))
  case atStart => exact ⟨0, Nat.zero_le _, rfl, rfl, S0⟩
  case round =>
    obtain ⟨i, hi, hkk, rfl, HS⟩ := hrel
    by_cases hlt : i < n
    · have hlti : (i : Int) < (n : Int) := by omega
      obtain ⟨b, off, e1⟩ := HPL.out (by omega)
      have hil : i < l.length := by rw [HN.out]; exact hlt
      obtain ⟨x, HX⟩ : ∃ x, Hid (l.getD i st0 = x) := ⟨_, rfl⟩
      obtain ⟨nm, er⟩ := x
      obtain ⟨X, HXB⟩ : ∃ X : ByteArray, Hid (⟨nm.toArray⟩ = X) := ⟨_, hid rfl⟩
      have HSd : Hid (BSt 59 w wr.drew G u5 (l.take i)) := hid (Bx.drew HS.out)
      have HQW : Hid (∀ W, Below G w W → Qs b (off + i * 2) X er W) := hid (fun W hW => by
        obtain ⟨h1, h2⟩ := pst_two (HPP.out W hW) e1 i hil _ HX.out X HXB.out
        exact ⟨h1, h2⟩)
      have HTX : Hid (l.take (i + 1) = l.take i ++ [(nm, er)]) := hid (by rw [take_snocG st0 l i hil, HX.out])
      have HQN := hid (HQW.out _ HSd.out.below)
      subst e1
      clear hil
      go_wp2_with fail
      refine wp_region_held_drew (S := Qs b (off + i * 2) X er) (by kernel_rfl) HQN.out (fun hHeld => ?_)
      generalize wr.drew = u0 at hHeld HSd HQN ⊢
      refine takeL (i := 0) (v := ?_) rfl (by kernel_rfl) (by kernel_rfl) (by kernel_rfl) (fun _ _ _ h => h) (Or.inl ⟨by rfl, ?_⟩) hHeld ?_
      rotate_left
      · rintro w' ⟨c0, c1⟩; go_simp; rfl
      try simp only [Act.put, List.setIfInBounds_toArray, List.set_cons_zero, List.set_cons_succ]
      refine takeL (i := 1) (v := ?_) rfl (by kernel_rfl) (by kernel_rfl) (by kernel_rfl) (fun _ _ _ h => h) (Or.inl ⟨by rfl, ?_⟩) hHeld ?_
      rotate_left
      · rintro w' ⟨c0, c1⟩; go_simp; rfl
      try simp only [Act.put, List.setIfInBounds_toArray, List.set_cons_zero, List.set_cons_succ]
      refine takeL (i := 2) (v := ?_) rfl (by kernel_rfl) (by kernel_rfl) (by kernel_rfl) (fun _ _ _ h => h) (Or.inl ⟨by rfl, ?_⟩) hHeld ?_
      rotate_left
      · rintro w' ⟨c0, c1⟩; go_simp; rfl
      try simp only [Act.put, List.setIfInBounds_toArray, List.set_cons_zero, List.set_cons_succ]
      refine takeL (i := 3) (v := ?_) rfl (by kernel_rfl) (by kernel_rfl) (by kernel_rfl) (fun _ _ _ h => h) (Or.inl ⟨by rfl, ?_⟩) hHeld ?_
      rotate_left
      · rintro w' ⟨c0, c1⟩; go_simp; rfl
      try simp only [Act.put, List.setIfInBounds_toArray, List.set_cons_zero, List.set_cons_succ]
      refine takeL (i := 4) (v := ?_) rfl (by kernel_rfl) (by kernel_rfl) (by kernel_rfl) (fun _ _ _ h => h) (Or.inl ⟨by rfl, ?_⟩) hHeld ?_
      rotate_left
      · rintro w' ⟨c0, c1⟩; go_simp; rfl
      try simp only [Act.put, List.setIfInBounds_toArray, List.set_cons_zero, List.set_cons_succ]
      refine takeL (i := 5) (v := ?_) rfl (by kernel_rfl) (by kernel_rfl) (by kernel_rfl) (fun _ _ _ h => h) (Or.inl ⟨by rfl, ?_⟩) hHeld ?_
      rotate_left
      · rintro w' ⟨c0, c1⟩; go_simp; rfl
      try simp only [Act.put, List.setIfInBounds_toArray, List.set_cons_zero, List.set_cons_succ]
      refine takeL (i := 6) (v := ?_) rfl (by kernel_rfl) (by kernel_rfl) (by kernel_rfl) (fun _ _ _ h => h) (Or.inl ⟨by rfl, ?_⟩) hHeld ?_
      rotate_left
      · rintro w' ⟨c0, c1⟩; go_simp; rfl
      try simp only [Act.put, List.setIfInBounds_toArray, List.set_cons_zero, List.set_cons_succ]
      refine takeL (i := 7) (v := ?_) rfl (by kernel_rfl) (by kernel_rfl) (by kernel_rfl) (fun _ _ _ h => h) (Or.inl ⟨by rfl, ?_⟩) hHeld ?_
      rotate_left
      · rintro w' ⟨c0, c1⟩; go_simp; rfl
      try simp only [Act.put, List.setIfInBounds_toArray, List.set_cons_zero, List.set_cons_succ]
      refine takeL (i := 8) (v := ?_) rfl (by kernel_rfl) (by kernel_rfl) (by kernel_rfl) (fun _ _ _ h => h) (Or.inl ⟨by rfl, ?_⟩) hHeld ?_
      rotate_left
      · rintro w' ⟨c0, c1⟩; go_simp; rfl
      try simp only [Act.put, List.setIfInBounds_toArray, List.set_cons_zero, List.set_cons_succ]
      refine takeL (i := 9) (v := ?_) rfl (by kernel_rfl) (by kernel_rfl) (by kernel_rfl) (fun _ _ _ h => h) (Or.inl ⟨by rfl, ?_⟩) hHeld ?_
      rotate_left
      · rintro w' ⟨c0, c1⟩; go_simp; rfl
      try simp only [Act.put, List.setIfInBounds_toArray, List.set_cons_zero, List.set_cons_succ]
      refine takeL (i := 10) (v := ?_) rfl (by kernel_rfl) (by kernel_rfl) (by kernel_rfl) (fun _ _ _ h => h) (Or.inl ⟨by rfl, ?_⟩) hHeld ?_
      rotate_left
      · rintro w' ⟨c0, c1⟩; go_simp; rfl
      try simp only [Act.put, List.setIfInBounds_toArray, List.set_cons_zero, List.set_cons_succ]
      refine takeL (i := 11) (v := .agg #[.string X, .int .i64 er]) rfl (by kernel_rfl) (by kernel_rfl) (by kernel_rfl) (fun _ _ _ h => h) (Or.inl ⟨by rfl, ?_⟩) hHeld ?_
      · rintro w' ⟨c0, c1⟩; exact exec_bd2 59 (.tmp 33) (.tmp 38) (by rfl) _ _ _ (by rfl) (by rfl) (run_b59b X er w')
      try simp only [Act.put, List.setIfInBounds_toArray, List.set_cons_zero, List.set_cons_succ]
      obtain ⟨u1, HU1⟩ : ∃ u, Hid (u0.alloc (.cells #[.string X, .int .i64 er] 59) = u) := ⟨_, rfl⟩
      obtain ⟨K, HKK⟩ : ∃ u, Hid (u0.heap.size = u) := ⟨_, rfl⟩
      have HS1 : Hid (BSt 59 w u1 G u5 (l.take i)) := hid (by rw [← HU1.out]; exact HSd.out.alloc _)
      have HP1 : Hid (PSt u1 (some ⟨K, 0, none⟩) 1 [(nm, er)]) := hid (by
        rw [← HU1.out, ← HKK.out, ← HXB.out]
        exact pst_one u0 (nm, er) 59)
      refine wpAnyH_ready (rs := [12]) (by kernel_rfl) (by simp) ?_
      refine consL rfl (fun KK hKK => ?_) AllReadyH.nil
      refine step_exec (by rfl) (.slice (some ⟨K, 0, none⟩) 1 1) (w' := u1) (exec_bS1 55 1 (.tmp 39) (by rfl) _ _ (by rfl) (by rw [← HU1.out, ← HKK.out]; exact run_b55 X er u0)) ?_
      refine hKK.out _ _ (HQW.out _ HS1.out.below) (fun _ => ?_)
      clear hKK KK
      try simp only [Act.put, List.setIfInBounds_toArray, List.set_cons_zero, List.set_cons_succ]
      refine wpAnyH_ready (rs := [13]) (by kernel_rfl) (by simp) ?_
      refine consL rfl (fun KK hKK => ?_) AllReadyH.nil
      refine step_app55 (by rfl) (.tmp 28) (.tmp 40) (by rfl) G u5 (l.take i) (by rfl) HS1.out (some ⟨K, 0, none⟩) 1 [(nm, er)] (by rfl) HP1.out (by rw [List.length_take]; simp; omega) ?_
      intro v2 u2 hb2
      have HS2 : Hid (BSt 59 w u2 G v2 (l.take (i + 1))) := hid (by rw [HTX.out]; exact hb2)
      clear hb2
      have hHeld2 := HQW.out _ HS2.out.below
      refine hKK.out _ _ hHeld2 (fun _ => ?_)
      clear hKK KK hHeld
      try simp only [Act.put, List.setIfInBounds_toArray, List.set_cons_zero, List.set_cons_succ]
      refine takeL (i := 14) (v := ?_) rfl (by kernel_rfl) (by kernel_rfl) (by kernel_rfl) (fun _ _ _ h => h) (Or.inl ⟨by rfl, ?_⟩) hHeld2 ?_
      rotate_left
      · rintro w' ⟨c0, c1⟩; go_simp; rfl
      try simp only [Act.put, List.setIfInBounds_toArray, List.set_cons_zero, List.set_cons_succ]
      refine wpAnyH_done (by kernel_rfl) ?_ _
      clear hHeld2
      go_wp2
      go_roundg (n - (i + 1))
      case measure => omega
      case rel => exact ⟨i + 1, by omega, rfl, by go_num, HS2⟩
    · have hlti : ¬ (i : Int) < (n : Int) := by omega
      have HS3 : Hid (BSt 59 w wr G u5 l) := hid (by
        have h := HS.out
        rw [List.take_of_length_le (by rw [HN.out]; omega)] at h
        exact h)
      obtain ⟨a5, c5, hu5, _⟩ := HS3.out.px (d := st0) (encSt_len _)
      rw [HN.out] at hu5
      subst hu5
      have HBR : Hid (Below G w wr) := hid HS3.out.below
      have HP5 : Hid (∀ W, Below wr.heap.size wr W → PSt W a5 c5 l) := hid (fun W hW => by
        obtain ⟨ax, cx, e1, hp, _⟩ := HS3.out.px (d := st0) (encSt_len _)
        injection e1 with e2 e3 e4
        rw [e2, e4]
        exact hp.below hW)
      have C23' := hid (C23.out wr HBR.out)
      go_wp2_with fail
      refine C23'.out.mono ?_
      rintro e w1 ⟨hb1, h13⟩
      have HB1 : Hid (Below G w w1) := hid (HBR.out.trans (hb1.mono (HGS.out wr HBR.out)))
      have C24' := hid (C24.out w1 a5 c5 (HP5.out w1 hb1))
      clear hb1
      rcases h13 with ⟨hd1, v7, rfl, ho7⟩ | ⟨hnn, rfl⟩
      · obtain ⟨a7, c7, rfl, hp7, _⟩ := own_pb ho7
        have HP7 : Hid (∀ X, Below w1.heap.size w1 X → PB X a7 c7 (stB l)) := hid (fun X hX => hp7.below hX)
        obtain ⟨q, HQ⟩ : ∃ n, Hid ((stB l).length = n) := ⟨_, rfl⟩
        have HD1 := hid hd1
        rw [HQ.out]
        clear hd1 ho7 hp7
        go_wp2_with fail
        refine C24'.out.mono ?_
        rintro e w4 ⟨hb4, h15⟩
        have HB4 : Hid (Below G w w4) := hid (HB1.out.trans (hb4.mono (HGS.out w1 HB1.out)))
        have HB14 : Hid (Below w1.heap.size w1 w4) := hid hb4
        clear hb4
        rcases h15 with ⟨_, v11, rfl, ho11⟩ | ⟨hnn, _⟩
        rotate_left
        · exact absurd HD1.out hnn
        obtain ⟨a11, c11, rfl, hp11, _⟩ := own_pb ho11
        have C10 : Hid (Calls Tryz.prog 10 #[.slice a7 q c7, .slice a11 q c11] w4 fun e w' => e = .returned (.bool true) ∧ Below w4.heap.size w4 w') := hid (by
          rw [← HQ.out]
          exact sameB a7 a11 c7 c11 (stB l) (HP7.out w4 HB14.out) hp11 (by have := HBL.out HD1.out; omega))
        rw [HQ.out]
        clear ho11 hp11
        go_wp2_with fail
        refine C10.out.mono ?_
        rintro e w5 ⟨rfl, hb5⟩
        have HB5 : Hid (Below G w w5) := hid (HB4.out.trans (hb5.mono (HGS.out w4 HB4.out)))
        have HB15 : Hid (Below w1.heap.size w1 w5) := hid (HB14.out.trans (hb5.mono HB14.out.size))
        clear hb5
        have C11 : Hid (Calls Tryz.prog 11 #[.nilIface] w5 fun e w' => e = .returned (.int .i64 0) ∧ Below w5.heap.size w5 w') := hid (tell_nil w5)
        go_wp2_with fail
        refine C11.out.mono ?_
        rintro e w6 ⟨rfl, hb6⟩
        have HB6 : Hid (Below G w w6) := hid (HB5.out.trans (hb6.mono (HGS.out w5 HB5.out)))
        have HB16 : Hid (Below w1.heap.size w1 w6) := hid (HB15.out.trans (hb6.mono HB15.out.size))
        clear hb6
        have CA := hid (C25.out w6 ab cb s k HK HB6.out (HPB.out w6 HB6.out) HSL.out)
        go_wp2_with fail
        refine CA.out.mono ?_
        rintro e w7 ⟨rfl, hb7⟩
        have HB7 : Hid (Below G w w7) := hid (HB6.out.trans (hb7.mono (HGS.out w6 HB6.out)))
        have HB17 : Hid (Below w1.heap.size w1 w7) := hid (HB16.out.trans (hb7.mono HB16.out.size))
        clear hb7
        have CB := hid (C25.out w7 a7 c7 (stB l) q HQ HB7.out (HP7.out w7 HB17.out) (HBL.out HD1.out))
        go_wp2_with fail
        refine CB.out.mono ?_
        rintro e w8 ⟨rfl, hb8⟩
        have HB8 : Hid (Below G w w8) := hid (HB7.out.trans (hb8.mono (HGS.out w7 HB7.out)))
        clear hb8
        go_wp2
        go_ret
        exact ⟨rfl, HB8.out⟩
      · have HNN := hid hnn
        clear hnn
        go_wp2_with fail
        refine C24'.out.mono ?_
        rintro e w4 ⟨hb4, h15⟩
        have HB4 : Hid (Below G w w4) := hid (HB1.out.trans (hb4.mono (HGS.out w1 HB1.out)))
        have HB14 : Hid (Below w1.heap.size w1 w4) := hid hb4
        clear hb4
        rcases h15 with ⟨h1, _⟩ | ⟨_, rfl⟩
        · exact absurd h1 HNN.out
        have C10 : Hid (Calls Tryz.prog 10 #[.slice none 0 0, .slice none 0 0] w4 fun e w' => e = .returned (.bool true) ∧ Below w4.heap.size w4 w') := hid (sameB none none 0 0 [] (pb_none w4) (pb_none w4) (by simp))
        go_wp2_with fail
        refine C10.out.mono ?_
        rintro e w5 ⟨rfl, hb5⟩
        have HB5 : Hid (Below G w w5) := hid (HB4.out.trans (hb5.mono (HGS.out w4 HB4.out)))
        have HB15 : Hid (Below w1.heap.size w1 w5) := hid (HB14.out.trans (hb5.mono HB14.out.size))
        clear hb5
        have C11 : Hid (Calls Tryz.prog 11 #[.iface 37 (.int .i64 111)] w5 fun e w' => e = .returned (.int .i64 111) ∧ Below w5.heap.size w5 w') := hid (tell_errno 111 w5 (HGW.out w5 HB5.out))
        go_wp2_with fail
        refine C11.out.mono ?_
        rintro e w6 ⟨rfl, hb6⟩
        have HB6 : Hid (Below G w w6) := hid (HB5.out.trans (hb6.mono (HGS.out w5 HB5.out)))
        have HB16 : Hid (Below w1.heap.size w1 w6) := hid (HB15.out.trans (hb6.mono HB15.out.size))
        clear hb6
        have CA := hid (C25.out w6 ab cb s k HK HB6.out (HPB.out w6 HB6.out) HSL.out)
        go_wp2_with fail
        refine CA.out.mono ?_
        rintro e w7 ⟨rfl, hb7⟩
        have HB7 : Hid (Below G w w7) := hid (HB6.out.trans (hb7.mono (HGS.out w6 HB6.out)))
        have HB17 : Hid (Below w1.heap.size w1 w7) := hid (HB16.out.trans (hb7.mono HB16.out.size))
        clear hb7
        go_wp2
        go_ret
        exact ⟨rfl, HB7.out⟩
end Go.Proofs.YtijeogdnjeamaaaGreatDoor
