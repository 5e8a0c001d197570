/- The law's 'lines'. -/
import Derived.Test.YtbcbikdfidmecaaDoorWcE
namespace Go.Proofs.YtbcbikdfidmecaaDoor
open Go.RowKit
set_option linter.unusedVariables false
set_option linter.unusedSimpArgs false
theorem pktL_one {ls ls' : List Str} (h : okL ls) (h' : okL ls') (e : pktL ls = pktL ls') : ls' = ls := by
  obtain ⟨rest, h1, h2⟩ := pktL_pre ls ls' [] h h' (by rw [List.append_nil]; exact e.symm)
  cases rest with
  | nil => rw [h1, List.append_nil]
  | cons x rest =>
    have := congrArg List.length h2
    simp [pktL, pkt_len] at this
    omega
theorem pktL_cnt : ∀ ls : List Str, 4 * ls.length ≤ (pktL ls).length
  | [] => by simp
  | x :: ls => by
    have := pktL_cnt ls
    show 4 * (ls.length + 1) ≤ (pkt x ++ pktL ls).length
    rw [List.length_append, pkt_len]
    omega
theorem nums_b (s : Str) : IsB (nums s) := by
  intro x hx
  obtain ⟨y, _, rfl⟩ := List.mem_map.1 hx
  have := y.toNat_lt
  omega
theorem Tryd.results10 : Tryd.f10.results = #[.tmp 2] := by kernel_rfl
set_option maxRecDepth 20000 in
set_option maxHeartbeats 8000000 in
theorem linesL_any {w : World} (a : Option Addr) (cap : Nat) (s : Str) (hP : PB w a cap s) (hl : s.length ≤ 60000) (hg : Hg w) (he : Ers w) (hd : Db w) : Calls Tryd.prog 10 #[.slice a s.length cap] w fun e w' => e = .returned (.bool true) ∧ Below w.heap.size w w' := by
  obtain ⟨n, HN⟩ : ∃ n, Hid (s.length = n) := ⟨_, rfl⟩
  obtain ⟨G, HG⟩ : ∃ g, Hid (w.heap.size = g) := ⟨_, rfl⟩
  have hG0 : 0 < G := by rw [← HG.out]; exact hg.lt
  have HPW : Hid (∀ W, Below G w W → PB W a cap s) := fun W hW => hP.below (by rw [HG.out]; exact hW)
  have HGW : Hid (∀ W, Below G w W → Hg W) := fun W hW => hg.below hW hG0
  have HEW : Hid (∀ W, Below G w W → Ers W) := fun W hW => he.below (by rw [HG.out]; exact hW)
  have HDW : Hid (∀ W, Below G w W → Db W) := fun W hW => hd.b hW HG.out.symm
  have HSB : Hid (0 < s.length → ∃ b off, a = some ⟨b, off, none⟩ ∧ b < G) := fun h0 => by
    obtain ⟨b, off, e1, e2, _⟩ := hP.at_ h0
    exact ⟨b, off, e1, by rw [← HG.out]; exact e2⟩
  have HL : Hid (s.length ≤ 60000) := hl
  have C4 : Hid (Calls Tryd.prog 4 #[.slice a n cap] w fun e w' => e = .returned (.slice (some ⟨G, 0, none⟩) n (n + 2)) ∧ Below G w w' ∧ Room w' G (nums s)) := hid (by
    have := roomy_any a cap (nums s) w (by rw [nums_len]; omega) (fun h0 => by
      rw [nums_len] at h0
      obtain ⟨b, off, e1, e2, _⟩ := hP.at_ h0
      subst e1
      exact ⟨b, off, rfl, e2, pb_at hP⟩)
    rw [nums_len, HN.out, HG.out] at this
    exact this)
  have C6 : Hid (∀ W, Below G w W → Room W G (nums s) → Calls Tryd.prog 6 #[.slice (some ⟨G, 0, none⟩) n (n + 2), .slice a n cap] W fun e w' => e = .returned (.bool true) ∧ W.grownBy w' (some G)) := hid (fun W hW hr => by
    have := still_keep a cap G (nums s) W (by rw [nums_len]; omega) (nums_b s) hr (fun h0 => by
      rw [nums_len] at h0
      obtain ⟨b, off, e1, e2⟩ := HSB.out h0
      subst e1
      exact ⟨b, off, rfl, e2, pb_at (HPW.out W hW)⟩)
    rw [nums_len, HN.out] at this
    exact this)
  have C14 : Hid (∀ W, Below G w W → Room W G (nums s) → Calls Tryd.prog 14 #[.slice (some ⟨G, 0, none⟩) n (n + 2)] W (PostL s W)) := hid (fun W hW hr => by
    have := lines_any (some ⟨G, 0, none⟩) (s.length + 2) s hr.pb (by have := HL.out; omega) (HEW.out W hW) (HDW.out W hW)
    rw [HN.out] at this
    exact this)
  have C15 : Hid (∀ W, Below G w W → Calls Tryd.prog 15 #[.slice a n cap] W (PostLd s W)) := hid (fun W hW => by
    have := refLines_any a cap s (HPW.out W hW) (by have := HL.out; omega)
    rw [HN.out] at this
    exact this)
  rw [HN.out, HG.out]
  clear hP hl hg he hd
  go_enter Tryd.func10, Tryd.ntmps10
  go_wp2_with fail
  refine C4.out.mono ?_
  rintro e w1 ⟨rfl, hb1, hr1⟩
  have HB1 := hid hb1
  have HR1 := hid hr1
  have hG1 : G < w1.heap.size := hr1.lt
  clear hb1 hr1
  go_wp2_with fail
  refine (C14.out w1 HB1.out HR1.out).mono ?_
  rintro e w2 ⟨hb2, ⟨ls, hok, hs, v, hs2, rfl, hll⟩ | ⟨hno, rfl⟩⟩
  · have HB2 : Hid (Below G w w2) := hid (HB1.out.trans (hb2.mono (by omega)))
    have HR2 : Hid (Room w2 G (nums s)) := hid (HR1.out.below hb2)
    obtain ⟨B, HBB⟩ : ∃ B, Hid (w1.heap.size = B) := ⟨_, rfl⟩
    rw [HBB.out] at hll hG1
    have HLL := hid hll
    have HOK := hid hok
    have HS := hid hs
    clear hb2 hll hok hs
    go_wp2_with fail
    refine (C6.out w2 HB2.out HR2.out).mono ?_
    rintro e w3 ⟨rfl, hg3⟩
    have HB3 : Hid (Below G w w3) := hid (HB2.out.grown hg3 (by rw [← HG.out]; exact HB2.out.size) (fun q hq => by cases hq; exact Nat.le_refl _))
    have HL3 : Hid (LL w3 w3 B v hs2 ls) := hid (HLL.out.rebase hg3 hG1)
    have hG3 : G ≤ w3.heap.size := by rw [← HG.out]; exact HB3.out.size
    clear hg3
    go_wp2_with fail
    refine (C15.out w3 HB3.out).mono ?_
    rintro e w4 ⟨hb4, ⟨ls', hok', hs', v4, ts, rfl, hbt, hat, hmap⟩ | ⟨hno, rfl⟩⟩
    rotate_left
    · exact absurd ⟨ls, HOK.out, HS.out⟩ hno
    have hle : ls' = ls := pktL_one HOK.out hok' (by rw [← HS.out, ← hs'])
    subst hle
    have HB4 : Hid (Below G w w4) := hid (HB3.out.trans (hb4.mono hG3))
    have HL4 : Hid (LL w3 w4 B v hs2 ls') := hid (HL3.out.below hb4)
    have HA4 : Hid (AT w4 ts) := hid (hat.below hb4)
    have HMP := hid hmap
    obtain ⟨k, HK⟩ : ∃ k, Hid (ls'.length = k) := ⟨_, rfl⟩
    have hkb : k ≤ 15000 := by
      have h1 := pktL_cnt ls'
      rw [← HS.out, HK.out] at h1
      have := HL.out
      omega
    obtain ⟨al, cl, hvl, hrow⟩ := ll_row HL4.out
    rw [HK.out] at hvl hrow
    subst hvl
    have htl : ts.length = k := by rw [← HK.out, ← HMP.out, List.length_map]
    obtain ⟨am, cm, hvm, hpm, _, hnm⟩ := Bx.px (d := dT) hbt (fun x _ => rfl)
    rw [htl] at hvm
    subst hvm
    have HPM : Hid (PT w4 am cm ts) := hid hpm
    have HTL := hid htl
    have HNM : Hid (0 < k → ∃ b, am = some ⟨b, 0, none⟩) := hid (fun h0 => by
      rcases hnm with h | h
      · obtain ⟨b, off, e1, _⟩ := hpm.at_ (by rw [htl]; exact h0)
        rw [h] at e1
        cases e1
      · exact h)
    have HAL : Hid (0 < k → ∃ g, al = some ⟨g, 0, none⟩ ∧ AP g hs2 ls' w4) := hid (fun h0 => by
      obtain ⟨g, h1, h2, _⟩ := hrow h0
      exact ⟨g, h1, ap_mv HL4.out (Nat.le_refl _) g h2 (by rw [HK.out]; exact h0) rfl (fun _ _ _ _ _ _ => rfl)⟩)
    have hG4 : G ≤ w4.heap.size := by rw [← HG.out]; exact HB4.out.size
    have hki : ((k : Int) != (k : Int)) = false := by simp
    clear hb4 hok' hs' hbt hat hmap hrow hpm hnm htl
    go_wp2_with fail
    refine (tell_nil w4).mono ?_
    rintro e w5 ⟨rfl, hb5⟩
    have HB5 : Hid (Below w4.heap.size w4 w5) := hid hb5
    clear hb5
    go_wp2_with fail
    go_loopg [9] k (fun gg iv wr => ∃ i : Nat, iv = .int .i64 i ∧ i ≤ k ∧ gg = k - i ∧ Hid (Below w4.heap.size w4 wr))
    case atStart => exact ⟨0, rfl, Nat.zero_le _, rfl, HB5⟩
    case round =>
      obtain ⟨i, rfl, hi, hk, HBr⟩ := hrel
      by_cases hlt : i < k
      · have hlti : (i : Int) < (k : Int) := by omega
        obtain ⟨g, rfl, hA⟩ := HAL.out (by omega)
        obtain ⟨gq, rfl⟩ := HNM.out (by omega)
        have hil : i < ls'.length := by rw [HK.out]; exact hlt
        have hit : i < ts.length := by rw [HTL.out]; exact hlt
        obtain ⟨x, HX⟩ : ∃ x, Hid (ls'.getD i [] = x) := ⟨_, rfl⟩
        obtain ⟨m, HM⟩ : ∃ m, Hid (x.length = m) := ⟨_, rfl⟩
        obtain ⟨xa, xc, hx, hpx⟩ := hA.each i hil
        obtain ⟨t, HT⟩ : ∃ t, Hid (ts.getD i dT = t) := ⟨_, rfl⟩
        have HTX : Hid (t.2.2 = x) := hid (by
          rw [← HX.out, ← HT.out, ← HMP.out, List.getD_eq_getElem?_getD, List.getD_eq_getElem?_getD, List.getElem?_map, List.getElem?_eq_getElem hit]
          rfl)
        obtain ⟨ya, yc, y⟩ := t
        obtain rfl : y = x := HTX.out
        have hpy : PB w4 ya yc y := HA4.out (ya, yc, y) (by rw [← HT.out]; exact getD_mem ts i dT hit)
        rw [HX.out] at hx hpx
        rw [HM.out] at hx
        have hcy := HPM.out.cell i hit
        rw [HT.out] at hcy
        have HSS : Hid (∀ W, Below w4.heap.size w4 W → W.cell? ⟨g, i, none⟩ = some (.slice xa m xc) ∧ W.cell? ⟨gq, i, none⟩ = some (.slice ya m yc)) := hid (fun W hW => ⟨by rw [(hA.below hW).row i hil, hx], by
          obtain ⟨b', o', e1, e2, _⟩ := HPM.out.at_ (by rw [HTL.out]; omega)
          cases e1
          rw [Nat.zero_add] at hcy
          rw [hW.cell (p := ⟨gq, i, none⟩) e2, hcy, HM.out]⟩)
        have HYL : Hid (y.length ≤ 1000) := hid (by rw [← HX.out]; exact HOK.out _ (getD_mem ls' i [] hil))
        have C8 : Hid (∀ W, Below w4.heap.size w4 W → Calls Tryd.prog 8 #[.slice xa m xc, .slice ya m yc] W fun e w' => e = .returned (.bool true) ∧ Below W.heap.size W w') := hid (fun W hW => by
          have := sameB xa ya xc yc y (hpx.below hW) (hpy.below hW) (by have := HYL.out; omega)
          rw [HM.out] at this
          exact this)
        have HBd : Hid (Below w4.heap.size w4 wr.drew) := hid (Below.drewR HBr.out)
        clear hx hpx hpy hA hcy hil hit
        go_wp2_with fail
        refine wp_region_held_drew (S := fun W => W.cell? ⟨g, i, none⟩ = some (.slice xa m xc) ∧ W.cell? ⟨gq, i, none⟩ = some (.slice ya m yc)) (by kernel_rfl) (HSS.out _ HBd.out) (fun hHeld => ?_)
        generalize wr.drew = wd at hHeld HBd ⊢
        refine takeL (i := 0) (v := ?_) rfl (by kernel_rfl) (by kernel_rfl) (by kernel_rfl) (fun _ _ _ h => h) (Or.inl ⟨by rfl, ?_⟩) hHeld ?_
        rotate_left
        · rintro w' ⟨hc1, hc2⟩; go_simp; rfl
        try simp only [Act.put, List.setIfInBounds_toArray, List.set_cons_zero, List.set_cons_succ]
        refine takeL (i := 1) (v := ?_) rfl (by kernel_rfl) (by kernel_rfl) (by kernel_rfl) (fun _ _ _ h => h) (Or.inl ⟨by rfl, ?_⟩) hHeld ?_
        rotate_left
        · rintro w' ⟨hc1, hc2⟩; go_simp; rfl
        try simp only [Act.put, List.setIfInBounds_toArray, List.set_cons_zero, List.set_cons_succ]
        refine takeL (i := 2) (v := .pointer (some ⟨g, i, none⟩)) rfl (by kernel_rfl) (by kernel_rfl) (by kernel_rfl) (fun _ _ _ h => h) (Or.inl ⟨by rfl, ?_⟩) hHeld ?_
        · rintro w' ⟨hc1, hc2⟩; go_simp; try rfl
        try simp only [Act.put, List.setIfInBounds_toArray, List.set_cons_zero, List.set_cons_succ]
        refine takeL (i := 3) (v := .slice xa m xc) rfl (by kernel_rfl) (by kernel_rfl) (by kernel_rfl) (fun _ _ _ h => h) (Or.inl ⟨by rfl, ?_⟩) hHeld ?_
        · rintro w' ⟨hc1, hc2⟩; go_simp; try rfl
        try simp only [Act.put, List.setIfInBounds_toArray, List.set_cons_zero, List.set_cons_succ]
        refine takeL (i := 4) (v := ?_) rfl (by kernel_rfl) (by kernel_rfl) (by kernel_rfl) (fun _ _ _ h => h) (Or.inl ⟨by rfl, ?_⟩) hHeld ?_
        rotate_left
        · rintro w' ⟨hc1, hc2⟩; go_simp; rfl
        try simp only [Act.put, List.setIfInBounds_toArray, List.set_cons_zero, List.set_cons_succ]
        refine takeL (i := 5) (v := ?_) rfl (by kernel_rfl) (by kernel_rfl) (by kernel_rfl) (fun _ _ _ h => h) (Or.inl ⟨by rfl, ?_⟩) hHeld ?_
        rotate_left
        · rintro w' ⟨hc1, hc2⟩; go_simp; rfl
        try simp only [Act.put, List.setIfInBounds_toArray, List.set_cons_zero, List.set_cons_succ]
        refine takeL (i := 6) (v := .pointer (some ⟨gq, i, none⟩)) rfl (by kernel_rfl) (by kernel_rfl) (by kernel_rfl) (fun _ _ _ h => h) (Or.inl ⟨by rfl, ?_⟩) hHeld ?_
        · rintro w' ⟨hc1, hc2⟩; go_simp; try rfl
        try simp only [Act.put, List.setIfInBounds_toArray, List.set_cons_zero, List.set_cons_succ]
        refine takeL (i := 7) (v := .slice ya m yc) rfl (by kernel_rfl) (by kernel_rfl) (by kernel_rfl) (fun _ _ _ h => h) (Or.inl ⟨by rfl, ?_⟩) hHeld ?_
        · rintro w' ⟨hc1, hc2⟩; go_simp; try rfl
        try simp only [Act.put, List.setIfInBounds_toArray, List.set_cons_zero, List.set_cons_succ]
        refine wpAnyH_ready (rs := [8]) (by kernel_rfl) (by simp) ?_
        refine consL rfl (fun KK hKK => ?_) AllReadyH.nil
        refine step_callv (by rfl) 8 [.tmp 62, .tmp 66] _ [.slice xa m xc, .slice ya m yc] _ (by rfl) (by rfl) (enter8 _ _) (C8.out wd HBd.out) ?_
        rintro e w6 ⟨rfl, hb6⟩
        have HB6 : Hid (Below w4.heap.size w4 w6) := hid (HBd.out.trans (hb6.mono HBd.out.size))
        clear hb6
        refine ⟨_, rfl, ?_⟩
        refine hKK.out _ _ (HSS.out _ HB6.out) (fun hHeld2 => ?_)
        clear hKK KK
        try simp only [Act.put, List.setIfInBounds_toArray, List.set_cons_zero, List.set_cons_succ]
        refine takeL (i := 9) (v := ?_) rfl (by kernel_rfl) (by kernel_rfl) (by kernel_rfl) (fun _ _ _ h => h) (Or.inl ⟨by rfl, ?_⟩) hHeld2 ?_
        rotate_left
        · rintro w' ⟨hc1, hc2⟩; go_simp; rfl
        try simp only [Act.put, List.setIfInBounds_toArray, List.set_cons_zero, List.set_cons_succ]
        refine wpAnyH_done (by kernel_rfl) ?_ _
        clear hHeld hHeld2
        go_wp2
        go_roundg (k - (i + 1))
        case measure => omega
        case rel => exact ⟨i + 1, by go_num, by omega, rfl, HB6⟩
      · have hlti : ¬ (i : Int) < (k : Int) := by omega
        have C16 : Hid (Calls Tryd.prog 16 #[.slice al k cl] wr fun e w' => e = .returned (.bool true) ∧ Below B wr w') := hid (apart_any (HL4.out.below HBr.out) HOK.out (by rw [HK.out]; omega))
        go_wp2_with fail
        refine C16.out.mono ?_
        rintro e w7 ⟨rfl, hb7⟩
        have HB7 : Hid (Below G w w7) := hid ((HB4.out.trans (HBr.out.mono hG4)).trans (hb7.mono (by omega)))
        clear hb7
        go_wp2
        go_ret
        exact ⟨rfl, HB7.out⟩
  · have HB2 : Hid (Below G w w2) := hid (HB1.out.trans (hb2.mono (by omega)))
    have HR2 : Hid (Room w2 G (nums s)) := hid (HR1.out.below hb2)
    have HNO := hid hno
    clear hb2 hno
    go_wp2_with fail
    refine (C6.out w2 HB2.out HR2.out).mono ?_
    rintro e w3 ⟨rfl, hg3⟩
    have HB3 : Hid (Below G w w3) := hid (HB2.out.grown hg3 (by rw [← HG.out]; exact HB2.out.size) (fun q hq => by cases hq; exact Nat.le_refl _))
    have hG3 : G ≤ w3.heap.size := by rw [← HG.out]; exact HB3.out.size
    clear hg3
    go_wp2_with fail
    refine (C15.out w3 HB3.out).mono ?_
    rintro e w4 ⟨hb4, ⟨ls', hok', hs', _⟩ | ⟨hno, rfl⟩⟩
    · exact absurd ⟨ls', hok', hs'⟩ HNO.out
    have HB4 : Hid (Below G w w4) := hid (HB3.out.trans (hb4.mono hG3))
    have hG4 : G ≤ w4.heap.size := by rw [← HG.out]; exact HB4.out.size
    have C9 : Hid (Calls Tryd.prog 9 #[.iface 32 (.int .i64 110)] w4 fun e w' => e = .returned (.int .i64 110) ∧ Below w4.heap.size w4 w') := hid (tell_errno 110 w4 (HGW.out w4 HB4.out))
    clear hb4 hno
    go_wp2_with fail
    refine C9.out.mono ?_
    rintro e w5 ⟨rfl, hb5⟩
    have HB5 : Hid (Below G w w5) := hid (HB4.out.trans (hb5.mono hG4))
    clear hb5
    go_wp2
    go_ret
    exact ⟨rfl, HB5.out⟩
end Go.Proofs.YtbcbikdfidmecaaDoor
