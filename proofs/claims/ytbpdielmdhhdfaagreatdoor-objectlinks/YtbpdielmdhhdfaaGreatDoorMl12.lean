import Derived.Test.YtbpdielmdhhdfaaGreatDoorMl11
import Derived.Test.YtbpdielmdhhdfaaGreatDoorMl04
import Derived.Test.YtbpdielmdhhdfaaGreatDoorMl07
namespace Go.Proofs.YtbpdielmdhhdfaaGreatDoor
open Go.RowKit
set_option linter.unusedVariables false
set_option linter.unusedSimpArgs false
theorem enter38 (v : Value) (w : World) : (callFunc 38 #[v]).run Tryz.prog w = .ok (.enter 38 #[v]) w := by kernel_rfl
def PostX (p : Per) (w : World) (e : Ending) (w' : World) : Prop := Below w.heap.size w w' ∧ ((okP p ∧ e = .returned (.tuple #[.string ⟨(perB p).toArray⟩, .bool true])) ∨ (¬ okP p ∧ e = .returned (.tuple #[.string ⟨#[]⟩, .bool false])))
set_option maxRecDepth 20000 in
set_option maxHeartbeats 2000000 in
theorem text_any (p : Per) (w : World) : Calls Tryz.prog 58 #[.agg (perV p)] w (PostX p w) := by
  obtain ⟨nm, ml, tm, zn⟩ := p
  obtain ⟨N, HNN⟩ : ∃ S : ByteArray, Hid (S = ⟨nm.toArray⟩) := ⟨_, rfl⟩
  obtain ⟨M, HMM⟩ : ∃ S : ByteArray, Hid (S = ⟨ml.toArray⟩) := ⟨_, rfl⟩
  have HN : Hid (∀ w, Calls Tryz.prog 103 #[.string N] w fun e w' => BIs (okT nm) e ∧ w' = w) := fun w => by rw [HNN.out]; exact plain_any nm w
  have HM : Hid (∀ w, Calls Tryz.prog 103 #[.string M] w fun e w' => BIs (okT ml) e ∧ w' = w) := fun w => by rw [HMM.out]; exact plain_any ml w
  obtain ⟨G, HG⟩ : ∃ G, Hid (w.heap.size = G) := ⟨_, rfl⟩
  obtain ⟨w0, HW0⟩ : ∃ w0, Hid (w.alloc (.cells #[.string N, .string M, .int .i64 tm, .int .i64 zn] 64) = w0) := ⟨_, rfl⟩
  have HB0 : Hid (Below G w w0) := hid (by rw [← HW0.out, ← HG.out]; exact (Below.refl _ w).alloc (Nat.le_refl _) _)
  have hs0 : G < w0.heap.size := by rw [← HW0.out, ← HG.out]; simp
  have HX0 : Hid (BoxP G N M tm zn w0) := hid (by rw [← HW0.out, ← HG.out]; exact ⟨by simp, by simp, by simp, by simp⟩)
  have HBE : Hid (Below w.heap.size w w0) := hid (by rw [HG.out]; exact HB0.out)
  obtain ⟨c0, c1, c2, c3⟩ := HX0.out
  unfold perV
  simp only
  rw [← HNN.out, ← HMM.out]
  go_enter Tryz.func58, Tryz.ntmps58
  go_wp2_with fail
  rw [HG.out, HW0.out]
  refine (HN.out w0).mono ?_
  rintro ev w0' ⟨hb, hw0⟩
  have hw0' := hw0.symm
  subst hw0'
  clear hw0
  rcases bis_or hb with ⟨hy1, rfl⟩ | ⟨hn1, rfl⟩
  rotate_left
  · have HOK : Hid (¬ okP ⟨nm, ml, tm, zn⟩) := fun h => hn1 h.1
    clear hn1 hb
    go_wp2_with fail
    refine (HM.out w0).mono ?_
    rintro ev w0' ⟨hb, hw0⟩
    have hw0' := hw0.symm
    subst hw0'
    clear hw0
    rcases bis_or hb with ⟨hy2, rfl⟩ | ⟨hn2, rfl⟩
    all_goals
      clear hb
      go_wp2
      go_ret2
      exact ⟨HBE.out, .inr ⟨HOK.out, rfl⟩⟩
  have HY1 : Hid (okT nm) := hy1
  clear hy1 hb
  go_wp2_with fail
  refine (HM.out w0).mono ?_
  rintro ev w0' ⟨hb, hw0⟩
  have hw0' := hw0.symm
  subst hw0'
  clear hw0
  rcases bis_or hb with ⟨hy2, rfl⟩ | ⟨hn2, rfl⟩
  rotate_left
  · have HOK : Hid (¬ okP ⟨nm, ml, tm, zn⟩) := fun h => hn2 h.2.1
    clear hn2 hb
    go_wp2
    go_ret2
    exact ⟨HBE.out, .inr ⟨HOK.out, rfl⟩⟩
  have HY2 : Hid (okT ml) := hy2
  clear hy2 hb
  by_cases t1 : tm < 0
  · have HOK : Hid (¬ okP ⟨nm, ml, tm, zn⟩) := fun h => by have h2 := h.2.2.1.1; simp only at h2; omega
    go_wp2
    go_ret2
    exact ⟨HBE.out, .inr ⟨HOK.out, rfl⟩⟩
  by_cases t2 : (1099511627776 : Int) < tm
  · have HOK : Hid (¬ okP ⟨nm, ml, tm, zn⟩) := fun h => by have h2 := h.2.2.1.2; simp only at h2; omega
    go_wp2
    go_ret2
    exact ⟨HBE.out, .inr ⟨HOK.out, rfl⟩⟩
  by_cases t3 : zn < -840
  · have HOK : Hid (¬ okP ⟨nm, ml, tm, zn⟩) := fun h => by have h2 := h.2.2.2.1; simp only at h2; omega
    go_wp2
    go_ret2
    exact ⟨HBE.out, .inr ⟨HOK.out, rfl⟩⟩
  by_cases t4 : (840 : Int) < zn
  · have HOK : Hid (¬ okP ⟨nm, ml, tm, zn⟩) := fun h => by have h2 := h.2.2.2.2; simp only at h2; omega
    go_wp2
    go_ret2
    exact ⟨HBE.out, .inr ⟨HOK.out, rfl⟩⟩
  have HOK : Hid (okP ⟨nm, ml, tm, zn⟩) := ⟨HY1.out, HY2.out, ⟨(by simp only; omega), (by simp only; omega)⟩, (by simp only; omega), (by simp only; omega)⟩
  obtain ⟨tn, rfl⟩ : ∃ tn : Nat, tm = (tn : Int) := ⟨tm.toNat, by omega⟩
  have htn : tn ≤ 1099511627776 := by omega
  obtain ⟨zz, HZZ⟩ : ∃ zz : Nat, Hid (zn.natAbs = zz) := ⟨_, rfl⟩
  have hzz : zz ≤ 840 := by have := HZZ.out; omega
  obtain ⟨hh, HHH⟩ : ∃ x : Nat, Hid (zz / 60 = x) := ⟨_, rfl⟩
  obtain ⟨mm, HMI⟩ : ∃ x : Nat, Hid (zz % 60 = x) := ⟨_, rfl⟩
  have hq1 : (zz : Int) / 60 = (hh : Int) := by have := HHH.out; omega
  have hq2 : (zz : Int) % 60 = (mm : Int) := by have := HMI.out; omega
  have hhb : hh ≤ 14 := by have := HHH.out; omega
  have hmb : mm ≤ 59 := by have := HMI.out; omega
  obtain ⟨x1, HX1⟩ : ∃ x : UInt8, Hid (x = UInt8.ofNat (48 + hh / 10)) := ⟨_, rfl⟩
  obtain ⟨x2, HX2⟩ : ∃ x : UInt8, Hid (x = UInt8.ofNat (48 + hh % 10)) := ⟨_, rfl⟩
  obtain ⟨x3, HX3⟩ : ∃ x : UInt8, Hid (x = UInt8.ofNat (48 + mm / 10)) := ⟨_, rfl⟩
  obtain ⟨x4, HX4⟩ : ∃ x : UInt8, Hid (x = UInt8.ofNat (48 + mm % 10)) := ⟨_, rfl⟩
  have hx1 : (48 : Int) + (hh : Int) / 10 = (x1.toNat : Int) := by rw [HX1.out, UInt8.toNat_ofNat']; omega
  have hx2 : (48 : Int) + (hh : Int) % 10 = (x2.toNat : Int) := by rw [HX2.out, UInt8.toNat_ofNat']; omega
  have hx3 : (48 : Int) + (mm : Int) / 10 = (x3.toNat : Int) := by rw [HX3.out, UInt8.toNat_ofNat']; omega
  have hx4 : (48 : Int) + (mm : Int) % 10 = (x4.toNat : Int) := by rw [HX4.out, UInt8.toNat_ofNat']; omega
  obtain ⟨Z, HZD⟩ : ∃ S : ByteArray, Hid (⟨#[x1, x2, x3, x4]⟩ = S) := ⟨_, rfl⟩
  have hcv : Sem.run Tryz.prog (convert 23 9 (.slice (some ⟨w0.heap.size, 0, none⟩) 4 4)) (w0.alloc (.cells #[.int .u8 (x1.toNat : Int), .int .u8 (x2.toNat : Int), .int .u8 (x3.toNat : Int), .int .u8 (x4.toNat : Int)] 5)) = .ok (.string Z) (w0.alloc (.cells #[.int .u8 (x1.toNat : Int), .int .u8 (x2.toNat : Int), .int .u8 (x3.toNat : Int), .int .u8 (x4.toNat : Int)] 5)) := by
    rw [← HZD.out]
    refine run_convert_bytes_back _ 23 9 5 ⟨w0.heap.size, 0, none⟩ 4 [x1, x2, x3, x4] Tryz.underlying23 Tryz.underlying5 Tryz.underlying9 ?_
    intro j hj
    have hj4 : j < 4 := by simpa using hj
    match j, hj4 with
    | 0, _ => simp [Addr.add]
    | 1, _ => simp [Addr.add]
    | 2, _ => simp [Addr.add]
    | 3, _ => simp [Addr.add]
  have hN60 : N.size ≤ 60 := by have := HY1.out.1; rw [HNN.out]; simpa [ByteArray.size] using this
  have hM60 : M.size ≤ 60 := by have := HY2.out.1; rw [HMM.out]; simpa [ByteArray.size] using this
  obtain ⟨D, HDD⟩ : ∃ S : ByteArray, Hid (S = ⟨(Lib.decDigits tn).toArray⟩) := ⟨_, rfl⟩
  have hD : D.size ≤ 13 := by rw [HDD.out]; have := dig_len40 tn htn; simpa [ByteArray.size] using this
  have HF : Hid (∀ W, Calls Tryz.prog 38 #[.int .i64 tn] W fun e w' => e = .returned (.string D) ∧ Below W.heap.size W w') := fun W => by rw [HDD.out]; exact decimal_big tn htn W
  obtain ⟨sg, HSG⟩ : ∃ S : ByteArray, Hid (S = if zn < 0 then ⟨#[45]⟩ else ⟨#[43]⟩) := ⟨_, rfl⟩
  have hsg1 : sg.size = 1 := by rw [HSG.out]; split <;> rfl
  have hZ4 : Z.size = 4 := by rw [← HZD.out]; rfl
  have l1 : (⟨#[32, 60]⟩ : ByteArray).size = 2 := rfl
  have l2 : (⟨#[62, 32]⟩ : ByteArray).size = 2 := rfl
  have l3 : (⟨#[32]⟩ : ByteArray).size = 1 := rfl
  obtain ⟨A1, HA1⟩ : ∃ A, N ++ ⟨#[32, 60]⟩ = A := ⟨_, rfl⟩
  have s1 : A1.size = N.size + 2 := by rw [← HA1, ByteArray.size_append, l1]
  obtain ⟨A2, HA2⟩ : ∃ A, A1 ++ M = A := ⟨_, rfl⟩
  have s2 : A2.size = A1.size + M.size := by rw [← HA2, ByteArray.size_append]
  obtain ⟨A3, HA3⟩ : ∃ A, A2 ++ ⟨#[62, 32]⟩ = A := ⟨_, rfl⟩
  have s3 : A3.size = A2.size + 2 := by rw [← HA3, ByteArray.size_append, l2]
  obtain ⟨A4, HA4⟩ : ∃ A, A3 ++ D = A := ⟨_, rfl⟩
  have s4 : A4.size = A3.size + D.size := by rw [← HA4, ByteArray.size_append]
  obtain ⟨A5, HA5⟩ : ∃ A, A4 ++ ⟨#[32]⟩ = A := ⟨_, rfl⟩
  have s5 : A5.size = A4.size + 1 := by rw [← HA5, ByteArray.size_append, l3]
  obtain ⟨A6, HA6⟩ : ∃ A, A5 ++ sg = A := ⟨_, rfl⟩
  have s6 : A6.size = A5.size + sg.size := by rw [← HA6, ByteArray.size_append]
  obtain ⟨A7, HA7⟩ : ∃ A, A6 ++ Z = A := ⟨_, rfl⟩
  have g1 : ¬ 9223372036854775807 < N.size + 2 := by omega
  have g2 : ¬ 9223372036854775807 < A1.size + M.size := by omega
  have g3 : ¬ 9223372036854775807 < A2.size + 2 := by omega
  have g4 : ¬ 9223372036854775807 < A3.size + D.size := by omega
  have g5 : ¬ 9223372036854775807 < A4.size + 1 := by omega
  have g5' : ¬ 9223372036854775807 ≤ A4.size := by omega
  have g6 : ¬ 9223372036854775807 < A5.size + 1 := by omega
  have g6' : ¬ 9223372036854775807 ≤ A5.size := by omega
  have g7 : ¬ 9223372036854775807 < A6.size + 4 := by omega
  have HE : Hid (A7 = ⟨(perB ⟨nm, ml, tn, zn⟩).toArray⟩) := hid (by
    have hz : Z = ⟨(two (zn.natAbs / 60) ++ two (zn.natAbs % 60)).toArray⟩ := by
      rw [← HZD.out, HZZ.out, HHH.out, HMI.out, HX1.out, HX2.out, HX3.out, HX4.out]
      rfl
    have hsg : sg = ⟨[if zn < 0 then 45 else 43].toArray⟩ := by rw [HSG.out]; split <;> rfl
    rw [← HA7, ← HA6, ← HA5, ← HA4, ← HA3, ← HA2, ← HA1, hz, hsg, HDD.out, HNN.out, HMM.out, show (⟨#[32, 60]⟩ : ByteArray) = ⟨[32, 60].toArray⟩ from rfl, show (⟨#[62, 32]⟩ : ByteArray) = ⟨[62, 32].toArray⟩ from rfl, show (⟨#[32]⟩ : ByteArray) = ⟨[32].toArray⟩ from rfl]
    simp only [str_add]
    simp [perB, zoneB])
  clear s1 s2 s3 s4 s5 s6
  obtain ⟨wz, HWZ⟩ : ∃ W, Hid (w0.alloc (.cells #[.int .u8 (x1.toNat : Int), .int .u8 (x2.toNat : Int), .int .u8 (x3.toNat : Int), .int .u8 (x4.toNat : Int)] 5) = W) := ⟨_, rfl⟩
  have hbz : Below w0.heap.size w0 wz := by rw [← HWZ.out]; exact (Below.refl _ _).alloc (Nat.le_refl _) _
  have hsz : G < wz.heap.size := Nat.lt_of_lt_of_le hs0 hbz.size
  have HBz : Hid (Below G w wz) := HB0.out.trans (hbz.mono (Nat.le_of_lt hs0))
  have HXz : Hid (BoxP G N M tn zn wz) := HX0.out.below hs0 hbz
  clear hbz
  have PE : Hid (∀ W, Below G w W → PostX ⟨nm, ml, tn, zn⟩ w (.returned (.tuple #[.string A7, .bool true])) W) := fun W hW => ⟨by rw [HG.out]; exact hW, .inl ⟨HOK.out, by rw [HE.out]⟩⟩
  by_cases hz : zn < 0
  · have hng : -zn = (zz : Int) := by have := HZZ.out; omega
    have hsg : sg = ⟨#[45]⟩ := by rw [HSG.out, if_pos hz]
    clear HSG HE
    subst hsg
    go_wp2_with fail
    rw [HWZ.out]
    clear hcv c0 c1 c2 c3
    refine wp_region_held_drew (S := BoxP G N M tn zn) (by kernel_rfl) (by exact HXz.out) (fun hHeld => ?_)
    have hsd : G < wz.drew.heap.size := hsz
    have HBd : Hid (Below G w wz.drew) := hid ⟨HBz.out.os, HBz.out.tape, HBz.out.output, HBz.out.size, HBz.out.block⟩
    generalize wz.drew = wd at hHeld hsd HBd ⊢
    refine takeL (i := 0) (v := ?_) rfl (by kernel_rfl) (by kernel_rfl) (by kernel_rfl) (fun _ _ _ h => h) (Or.inl ⟨by rfl, ?_⟩) hHeld ?_
    rotate_left
    · rintro w' ⟨c0, c1, c2, c3⟩; go_simp; rfl
    try simp only [Act.put, List.setIfInBounds_toArray, List.set_cons_zero, List.set_cons_succ]
    refine takeL (i := 1) (v := ?_) rfl (by kernel_rfl) (by kernel_rfl) (by kernel_rfl) (fun _ _ _ h => h) (Or.inl ⟨by rfl, ?_⟩) hHeld ?_
    rotate_left
    · rintro w' ⟨c0, c1, c2, c3⟩; go_simp; rfl
    try simp only [Act.put, List.setIfInBounds_toArray, List.set_cons_zero, List.set_cons_succ]
    refine takeL (i := 2) (v := ?_) rfl (by kernel_rfl) (by kernel_rfl) (by kernel_rfl) (fun _ _ _ h => h) (Or.inl ⟨by rfl, ?_⟩) hHeld ?_
    rotate_left
    · rintro w' ⟨c0, c1, c2, c3⟩; go_simp; rfl
    try simp only [Act.put, List.setIfInBounds_toArray, List.set_cons_zero, List.set_cons_succ]
    refine takeL (i := 3) (v := ?_) rfl (by kernel_rfl) (by kernel_rfl) (by kernel_rfl) (fun _ _ _ h => h) (Or.inl ⟨by rfl, ?_⟩) hHeld ?_
    rotate_left
    · rintro w' ⟨c0, c1, c2, c3⟩; go_simp; rfl
    try simp only [Act.put, List.setIfInBounds_toArray, List.set_cons_zero, List.set_cons_succ]
    refine takeL (i := 4) (v := ?_) rfl (by kernel_rfl) (by kernel_rfl) (by kernel_rfl) (fun _ _ _ h => h) (Or.inl ⟨by rfl, ?_⟩) hHeld ?_
    rotate_left
    · rintro w' ⟨c0, c1, c2, c3⟩; go_simp; rfl
    try simp only [Act.put, List.setIfInBounds_toArray, List.set_cons_zero, List.set_cons_succ]
    refine takeL (i := 5) (v := ?_) rfl (by kernel_rfl) (by kernel_rfl) (by kernel_rfl) (fun _ _ _ h => h) (Or.inl ⟨by rfl, ?_⟩) hHeld ?_
    rotate_left
    · rintro w' ⟨c0, c1, c2, c3⟩; go_simp; rfl
    try simp only [Act.put, List.setIfInBounds_toArray, List.set_cons_zero, List.set_cons_succ]
    refine takeL (i := 6) (v := ?_) rfl (by kernel_rfl) (by kernel_rfl) (by kernel_rfl) (fun _ _ _ h => h) (Or.inl ⟨by rfl, ?_⟩) hHeld ?_
    rotate_left
    · rintro w' ⟨c0, c1, c2, c3⟩; go_simp; rfl
    try simp only [Act.put, List.setIfInBounds_toArray, List.set_cons_zero, List.set_cons_succ]
    refine takeL (i := 7) (v := ?_) rfl (by kernel_rfl) (by kernel_rfl) (by kernel_rfl) (fun _ _ _ h => h) (Or.inl ⟨by rfl, ?_⟩) hHeld ?_
    rotate_left
    · rintro w' ⟨c0, c1, c2, c3⟩; go_simp; rfl
    try simp only [Act.put, List.setIfInBounds_toArray, List.set_cons_zero, List.set_cons_succ]
    refine takeL (i := 8) (v := ?_) rfl (by kernel_rfl) (by kernel_rfl) (by kernel_rfl) (fun _ _ _ h => h) (Or.inl ⟨by rfl, ?_⟩) hHeld ?_
    rotate_left
    · rintro w' ⟨c0, c1, c2, c3⟩; go_simp; rfl
    try simp only [Act.put, List.setIfInBounds_toArray, List.set_cons_zero, List.set_cons_succ]
    refine takeL (i := 12) (v := ?_) rfl (by kernel_rfl) (by kernel_rfl) (by kernel_rfl) (fun _ _ _ h => h) (Or.inl ⟨by rfl, ?_⟩) hHeld ?_
    rotate_left
    · rintro w' ⟨c0, c1, c2, c3⟩; go_simp; rfl
    try simp only [Act.put, List.setIfInBounds_toArray, List.set_cons_zero, List.set_cons_succ]
    refine takeL (i := 14) (v := ?_) rfl (by kernel_rfl) (by kernel_rfl) (by kernel_rfl) (fun _ _ _ h => h) (Or.inl ⟨by rfl, ?_⟩) hHeld ?_
    rotate_left
    · rintro w' ⟨c0, c1, c2, c3⟩; go_simp; rfl
    try simp only [Act.put, List.setIfInBounds_toArray, List.set_cons_zero, List.set_cons_succ]
    refine wpAnyH_ready (rs := [9]) (by kernel_rfl) (by simp) ?_
    refine consL rfl (fun KK hKK => ?_) AllReadyH.nil
    refine step_callv (by rfl) 38 [.tmp 79] _ [.int .i64 tn] _ (by rfl) (by rfl) (enter38 _) (HF.out _) ?_
    rintro e w1 ⟨rfl, hb1⟩
    refine ⟨_, rfl, ?_⟩
    have HB1 : Hid (Below G w w1) := HBd.out.trans (hb1.mono (Nat.le_of_lt hsd))
    refine hKK.out _ _ (hHeld.below hsd hb1) (fun hHeld => ?_)
    clear hKK KK hb1
    try simp only [Act.put, List.setIfInBounds_toArray, List.set_cons_zero, List.set_cons_succ]
    refine takeL (i := 10) (v := ?_) rfl (by kernel_rfl) (by kernel_rfl) (by kernel_rfl) (fun _ _ _ h => h) (Or.inl ⟨by rfl, ?_⟩) hHeld ?_
    rotate_left
    · rintro w' ⟨c0, c1, c2, c3⟩; go_simp; rfl
    try simp only [Act.put, List.setIfInBounds_toArray, List.set_cons_zero, List.set_cons_succ]
    refine takeL (i := 11) (v := ?_) rfl (by kernel_rfl) (by kernel_rfl) (by kernel_rfl) (fun _ _ _ h => h) (Or.inl ⟨by rfl, ?_⟩) hHeld ?_
    rotate_left
    · rintro w' ⟨c0, c1, c2, c3⟩; go_simp; rfl
    try simp only [Act.put, List.setIfInBounds_toArray, List.set_cons_zero, List.set_cons_succ]
    refine takeL (i := 13) (v := ?_) rfl (by kernel_rfl) (by kernel_rfl) (by kernel_rfl) (fun _ _ _ h => h) (Or.inl ⟨by rfl, ?_⟩) hHeld ?_
    rotate_left
    · rintro w' ⟨c0, c1, c2, c3⟩; go_simp; rfl
    try simp only [Act.put, List.setIfInBounds_toArray, List.set_cons_zero, List.set_cons_succ]
    refine takeL (i := 15) (v := ?_) rfl (by kernel_rfl) (by kernel_rfl) (by kernel_rfl) (fun _ _ _ h => h) (Or.inl ⟨by rfl, ?_⟩) hHeld ?_
    rotate_left
    · rintro w' ⟨c0, c1, c2, c3⟩; go_simp; rfl
    try simp only [Act.put, List.setIfInBounds_toArray, List.set_cons_zero, List.set_cons_succ]
    refine takeL (i := 16) (v := ?_) rfl (by kernel_rfl) (by kernel_rfl) (by kernel_rfl) (fun _ _ _ h => h) (Or.inl ⟨by rfl, ?_⟩) hHeld ?_
    rotate_left
    · rintro w' ⟨c0, c1, c2, c3⟩; go_simp; rfl
    try simp only [Act.put, List.setIfInBounds_toArray, List.set_cons_zero, List.set_cons_succ]
    refine takeL (i := 17) (v := ?_) rfl (by kernel_rfl) (by kernel_rfl) (by kernel_rfl) (fun _ _ _ h => h) (Or.inl ⟨by rfl, ?_⟩) hHeld ?_
    rotate_left
    · rintro w' ⟨c0, c1, c2, c3⟩; go_simp; rfl
    try simp only [Act.put, List.setIfInBounds_toArray, List.set_cons_zero, List.set_cons_succ]
    refine wpAnyH_done (by kernel_rfl) ?_ _
    go_wp2
    go_ret2
    exact PE.out _ HB1.out
  · have hzn : zn = (zz : Int) := by have := HZZ.out; omega
    have hsg : sg = ⟨#[43]⟩ := by rw [HSG.out, if_neg hz]
    clear HSG HE HZZ
    subst hsg
    subst hzn
    have hz0 : ¬ (zz : Int) < 0 := hz
    go_wp2_with fail
    rw [HWZ.out]
    clear hcv c0 c1 c2 c3
    refine wp_region_held_drew (S := BoxP G N M tn (zz : Int)) (by kernel_rfl) (by exact HXz.out) (fun hHeld => ?_)
    have hsd : G < wz.drew.heap.size := hsz
    have HBd : Hid (Below G w wz.drew) := hid ⟨HBz.out.os, HBz.out.tape, HBz.out.output, HBz.out.size, HBz.out.block⟩
    generalize wz.drew = wd at hHeld hsd HBd ⊢
    refine takeL (i := 0) (v := ?_) rfl (by kernel_rfl) (by kernel_rfl) (by kernel_rfl) (fun _ _ _ h => h) (Or.inl ⟨by rfl, ?_⟩) hHeld ?_
    rotate_left
    · rintro w' ⟨c0, c1, c2, c3⟩; go_simp; rfl
    try simp only [Act.put, List.setIfInBounds_toArray, List.set_cons_zero, List.set_cons_succ]
    refine takeL (i := 1) (v := ?_) rfl (by kernel_rfl) (by kernel_rfl) (by kernel_rfl) (fun _ _ _ h => h) (Or.inl ⟨by rfl, ?_⟩) hHeld ?_
    rotate_left
    · rintro w' ⟨c0, c1, c2, c3⟩; go_simp; rfl
    try simp only [Act.put, List.setIfInBounds_toArray, List.set_cons_zero, List.set_cons_succ]
    refine takeL (i := 2) (v := ?_) rfl (by kernel_rfl) (by kernel_rfl) (by kernel_rfl) (fun _ _ _ h => h) (Or.inl ⟨by rfl, ?_⟩) hHeld ?_
    rotate_left
    · rintro w' ⟨c0, c1, c2, c3⟩; go_simp; rfl
    try simp only [Act.put, List.setIfInBounds_toArray, List.set_cons_zero, List.set_cons_succ]
    refine takeL (i := 3) (v := ?_) rfl (by kernel_rfl) (by kernel_rfl) (by kernel_rfl) (fun _ _ _ h => h) (Or.inl ⟨by rfl, ?_⟩) hHeld ?_
    rotate_left
    · rintro w' ⟨c0, c1, c2, c3⟩; go_simp; rfl
    try simp only [Act.put, List.setIfInBounds_toArray, List.set_cons_zero, List.set_cons_succ]
    refine takeL (i := 4) (v := ?_) rfl (by kernel_rfl) (by kernel_rfl) (by kernel_rfl) (fun _ _ _ h => h) (Or.inl ⟨by rfl, ?_⟩) hHeld ?_
    rotate_left
    · rintro w' ⟨c0, c1, c2, c3⟩; go_simp; rfl
    try simp only [Act.put, List.setIfInBounds_toArray, List.set_cons_zero, List.set_cons_succ]
    refine takeL (i := 5) (v := ?_) rfl (by kernel_rfl) (by kernel_rfl) (by kernel_rfl) (fun _ _ _ h => h) (Or.inl ⟨by rfl, ?_⟩) hHeld ?_
    rotate_left
    · rintro w' ⟨c0, c1, c2, c3⟩; go_simp; rfl
    try simp only [Act.put, List.setIfInBounds_toArray, List.set_cons_zero, List.set_cons_succ]
    refine takeL (i := 6) (v := ?_) rfl (by kernel_rfl) (by kernel_rfl) (by kernel_rfl) (fun _ _ _ h => h) (Or.inl ⟨by rfl, ?_⟩) hHeld ?_
    rotate_left
    · rintro w' ⟨c0, c1, c2, c3⟩; go_simp; rfl
    try simp only [Act.put, List.setIfInBounds_toArray, List.set_cons_zero, List.set_cons_succ]
    refine takeL (i := 7) (v := ?_) rfl (by kernel_rfl) (by kernel_rfl) (by kernel_rfl) (fun _ _ _ h => h) (Or.inl ⟨by rfl, ?_⟩) hHeld ?_
    rotate_left
    · rintro w' ⟨c0, c1, c2, c3⟩; go_simp; rfl
    try simp only [Act.put, List.setIfInBounds_toArray, List.set_cons_zero, List.set_cons_succ]
    refine takeL (i := 8) (v := ?_) rfl (by kernel_rfl) (by kernel_rfl) (by kernel_rfl) (fun _ _ _ h => h) (Or.inl ⟨by rfl, ?_⟩) hHeld ?_
    rotate_left
    · rintro w' ⟨c0, c1, c2, c3⟩; go_simp; rfl
    try simp only [Act.put, List.setIfInBounds_toArray, List.set_cons_zero, List.set_cons_succ]
    refine takeL (i := 12) (v := ?_) rfl (by kernel_rfl) (by kernel_rfl) (by kernel_rfl) (fun _ _ _ h => h) (Or.inl ⟨by rfl, ?_⟩) hHeld ?_
    rotate_left
    · rintro w' ⟨c0, c1, c2, c3⟩; go_simp; rfl
    try simp only [Act.put, List.setIfInBounds_toArray, List.set_cons_zero, List.set_cons_succ]
    refine takeL (i := 14) (v := ?_) rfl (by kernel_rfl) (by kernel_rfl) (by kernel_rfl) (fun _ _ _ h => h) (Or.inl ⟨by rfl, ?_⟩) hHeld ?_
    rotate_left
    · rintro w' ⟨c0, c1, c2, c3⟩; go_simp; rfl
    try simp only [Act.put, List.setIfInBounds_toArray, List.set_cons_zero, List.set_cons_succ]
    refine wpAnyH_ready (rs := [9]) (by kernel_rfl) (by simp) ?_
    refine consL rfl (fun KK hKK => ?_) AllReadyH.nil
    refine step_callv (by rfl) 38 [.tmp 79] _ [.int .i64 tn] _ (by rfl) (by rfl) (enter38 _) (HF.out _) ?_
    rintro e w1 ⟨rfl, hb1⟩
    refine ⟨_, rfl, ?_⟩
    have HB1 : Hid (Below G w w1) := HBd.out.trans (hb1.mono (Nat.le_of_lt hsd))
    refine hKK.out _ _ (hHeld.below hsd hb1) (fun hHeld => ?_)
    clear hKK KK hb1
    try simp only [Act.put, List.setIfInBounds_toArray, List.set_cons_zero, List.set_cons_succ]
    refine takeL (i := 10) (v := ?_) rfl (by kernel_rfl) (by kernel_rfl) (by kernel_rfl) (fun _ _ _ h => h) (Or.inl ⟨by rfl, ?_⟩) hHeld ?_
    rotate_left
    · rintro w' ⟨c0, c1, c2, c3⟩; go_simp; rfl
    try simp only [Act.put, List.setIfInBounds_toArray, List.set_cons_zero, List.set_cons_succ]
    refine takeL (i := 11) (v := ?_) rfl (by kernel_rfl) (by kernel_rfl) (by kernel_rfl) (fun _ _ _ h => h) (Or.inl ⟨by rfl, ?_⟩) hHeld ?_
    rotate_left
    · rintro w' ⟨c0, c1, c2, c3⟩; go_simp; rfl
    try simp only [Act.put, List.setIfInBounds_toArray, List.set_cons_zero, List.set_cons_succ]
    refine takeL (i := 13) (v := ?_) rfl (by kernel_rfl) (by kernel_rfl) (by kernel_rfl) (fun _ _ _ h => h) (Or.inl ⟨by rfl, ?_⟩) hHeld ?_
    rotate_left
    · rintro w' ⟨c0, c1, c2, c3⟩; go_simp; rfl
    try simp only [Act.put, List.setIfInBounds_toArray, List.set_cons_zero, List.set_cons_succ]
    refine takeL (i := 15) (v := ?_) rfl (by kernel_rfl) (by kernel_rfl) (by kernel_rfl) (fun _ _ _ h => h) (Or.inl ⟨by rfl, ?_⟩) hHeld ?_
    rotate_left
    · rintro w' ⟨c0, c1, c2, c3⟩; go_simp; rfl
    try simp only [Act.put, List.setIfInBounds_toArray, List.set_cons_zero, List.set_cons_succ]
    refine takeL (i := 16) (v := ?_) rfl (by kernel_rfl) (by kernel_rfl) (by kernel_rfl) (fun _ _ _ h => h) (Or.inl ⟨by rfl, ?_⟩) hHeld ?_
    rotate_left
    · rintro w' ⟨c0, c1, c2, c3⟩; go_simp; rfl
    try simp only [Act.put, List.setIfInBounds_toArray, List.set_cons_zero, List.set_cons_succ]
    refine takeL (i := 17) (v := ?_) rfl (by kernel_rfl) (by kernel_rfl) (by kernel_rfl) (fun _ _ _ h => h) (Or.inl ⟨by rfl, ?_⟩) hHeld ?_
    rotate_left
    · rintro w' ⟨c0, c1, c2, c3⟩; go_simp; rfl
    try simp only [Act.put, List.setIfInBounds_toArray, List.set_cons_zero, List.set_cons_succ]
    refine wpAnyH_done (by kernel_rfl) ?_ _
    go_wp2
    go_ret2
    exact PE.out _ HB1.out
end Go.Proofs.YtbpdielmdhhdfaaGreatDoor
namespace Go.Proofs.YtbpdielmdhhdfaaGreatDoor
open Go.RowKit
set_option linter.unusedVariables false
set_option linter.unusedSimpArgs false
theorem enter60 (v : Value) (w : World) : (callFunc 60 #[v]).run Tryz.prog w = .ok (.enter 60 #[v]) w := by kernel_rfl
theorem enter37 (v : Value) (w : World) : (callFunc 37 #[v]).run Tryz.prog w = .ok (.enter 37 #[v]) w := by kernel_rfl
theorem txt_size (l : List UInt8) : (⟨l.toArray⟩ : ByteArray).size = l.length := by simp [ByteArray.size]
def PostU (t : Tg) (w : World) (e : Ending) (w' : World) : Prop := Below w.heap.size w w' ∧
  ((okG t ∧ ∃ g cap : Nat, e = .returned (.tuple #[.slice (some ⟨g, 0, none⟩) (tagB t).length cap, .int .i64 0]) ∧ w.heap.size ≤ g ∧ Mk w' g cap (nums (tagB t))) ∨ (¬ okG t ∧ e = .returned (.tuple #[.slice none 0 0, .int .i64 23])))
set_option maxRecDepth 20000 in
set_option maxHeartbeats 4000000 in
theorem writeTagR_any (t : Tg) (hid20 : t.id.length = 20) (hidB : ∀ n ∈ t.id, 0 ≤ n ∧ n < 256) (w : World) :
    Calls Tryz.prog 28 #[.agg (tgV t).toArray] w (PostU t w) := by
  obtain ⟨A, HA⟩ : ∃ A : Array Value, Hid ((tgV t).toArray = A) := ⟨_, rfl⟩
  have hsz : A.size = 27 := by rw [← HA.out, List.size_toArray]; exact tgV_len t hid20
  obtain ⟨G, HG⟩ : ∃ G, Hid (w.heap.size = G) := ⟨_, rfl⟩
  obtain ⟨w0, HW0⟩ : ∃ w0, Hid (w.alloc (.cells A 75) = w0) := ⟨_, rfl⟩
  have HX0 : Hid (BoxG G t w0) := hid (by rw [← HW0.out, ← HG.out, ← HA.out]; exact box_alloc t hid20 w 75)
  have HB0 : Hid (Below G w w0) := hid (by rw [← HW0.out, ← HG.out]; exact (Below.refl _ w).alloc (Nat.le_refl _) _)
  have hs0 : G < w0.heap.size := by rw [← HW0.out, ← HG.out]; simp
  obtain ⟨R, HR⟩ : ∃ R : List Value, Hid (row .u8 t.id = R) := ⟨_, rfl⟩
  obtain ⟨Kn, HK⟩ : ∃ S : ByteArray, Hid (kN t.kind = S) := ⟨_, rfl⟩
  obtain ⟨Hxs, HHX⟩ : ∃ S : ByteArray, Hid (strOfNums (Hx.hexOf t.id) = S) := ⟨_, rfl⟩
  obtain ⟨kd, HKD⟩ : ∃ kd, Hid (t.kind = kd) := ⟨_, rfl⟩
  obtain ⟨N, HNN⟩ : ∃ S : ByteArray, Hid (⟨t.name.toArray⟩ = S) := ⟨_, rfl⟩
  obtain ⟨M, HMM⟩ : ∃ S : ByteArray, Hid (⟨t.msg.toArray⟩ = S) := ⟨_, rfl⟩
  obtain ⟨P1, HP1⟩ : ∃ S : ByteArray, Hid (⟨t.per.name.toArray⟩ = S) := ⟨_, rfl⟩
  obtain ⟨P2, HP2⟩ : ∃ S : ByteArray, Hid (⟨t.per.mail.toArray⟩ = S) := ⟨_, rfl⟩
  obtain ⟨tm, HTM⟩ : ∃ x, Hid (t.per.time = x) := ⟨_, rfl⟩
  obtain ⟨zn, HZN⟩ : ∃ x, Hid (t.per.zone = x) := ⟨_, rfl⟩
  obtain ⟨Pt, HPT⟩ : ∃ S : ByteArray, Hid (⟨(perB t.per).toArray⟩ = S) := ⟨_, rfl⟩
  obtain ⟨TB, HTB⟩ : ∃ l : List UInt8, Hid (tagB t = l) := ⟨_, rfl⟩
  obtain ⟨ms, HMSB⟩ : ∃ b : Bool, Hid (isMsg t.msg = b) := ⟨_, rfl⟩
  have CT : Hid (∀ W, Calls Tryz.prog 66 #[.string N] W fun e w' => BIs (okN t.name) e ∧ w' = W) := fun W => by rw [← HNN.out]; exact isTagR_any t.name W
  have CP : Hid (∀ W, Calls Tryz.prog 58 #[.agg #[.string P1, .string P2, .int .i64 tm, .int .i64 zn]] W (PostX t.per W)) := fun W => by
    rw [← HP1.out, ← HP2.out, ← HTM.out, ← HZN.out]; exact text_any t.per W
  have CM : Hid (∀ W, Calls Tryz.prog 59 #[.string M] W fun e w' => e = .returned (.bool ms) ∧ w' = W) := fun W => by rw [← HMM.out, ← HMSB.out]; exact message_any t.msg W
  have CK : Hid (∀ W, Calls Tryz.prog 37 #[.int .i64 kd] W fun e w' => e = .returned (.string Kn) ∧ w' = W) := fun W => by rw [← HKD.out, ← HK.out]; exact name_any t.kind W
  have CH : Hid (∀ W, Calls Tryz.prog 60 #[.agg R.toArray] W fun e w' => e = .returned (.string Hxs) ∧ Below W.heap.size W w') := fun W => by
    rw [← HR.out, ← HHX.out]; exact Hx.hex_ref t.id W hid20 hidB
  have HBX : Hid (∀ W, Below w0.heap.size w0 W → BoxL G R kd N P1 P2 tm zn M W) := fun W hW => by
    have hx := HX0.out.below hs0 hW
    rw [← HR.out, ← HKD.out, ← HNN.out, ← HP1.out, ← HP2.out, ← HTM.out, ← HZN.out, ← HMM.out]
    exact ⟨hx.id, hx.c20, hx.c21, hx.c22, hx.c23, hx.c24, hx.c25, hx.c26⟩
  have HBE : Hid (∀ W, Below w0.heap.size w0 W → Below w.heap.size w W) := fun W hW => by rw [HG.out]; exact HB0.out.trans (hW.mono (Nat.le_of_lt hs0))
  have hA21 : A[21]'(by omega) = .string N := by
    have hr := cell_of_row w0 G 21 A 75 (0, 0) (by rw [← HW0.out, ← HG.out]; exact heap_alloc_new w _)
    rw [(HBX.out w0 (Below.refl _ _)).c21, Array.getElem?_eq_getElem (by omega)] at hr
    exact (Option.some.inj hr).symm
  have hi31 : (Tryz.prog.info? 31).map (·.size) = some R.length := by rw [← HR.out, row_len, hid20]; kernel_rfl
  have HI31 : Hid ((Tryz.prog.info? 31).map (·.size) = some R.length) := hi31
  have HHL : Hid (Hxs.size = 40) := hid (by rw [← HHX.out, strOfNums_size, Hx.hexOf_len, hid20])
  have HID : Hid (t.id.length = 20) := hid20
  clear hi31 hid20 hidB
  rw [HA.out]
  go_enter Tryz.func28, Tryz.ntmps28
  go_wp2_with fail
  rw [HG.out, HW0.out]
  clear hA21 hsz
  refine (CT.out w0).mono ?_
  rintro ev w0' ⟨hb, hw0⟩
  have hw0' := hw0.symm
  subst hw0'
  clear hw0
  obtain ⟨b1, rfl, hb1⟩ := hb
  have HB1 : Hid (b1 = true ↔ okN t.name) := hb1
  clear hb1
  obtain ⟨cid, c20, c21, c22, c23, c24, c25, c26⟩ := HBX.out w0 (Below.refl _ _)
  go_wp2_with fail
  refine (CP.out w0).mono ?_
  rintro ev w1 ⟨hb1, hor⟩
  have HBW : Hid (Below w0.heap.size w0 w1) := hb1
  have HOR : Hid ((okP t.per ∧ ev = .returned (.tuple #[.string Pt, .bool true])) ∨ (¬ okP t.per ∧ ev = .returned (.tuple #[.string ⟨#[]⟩, .bool false]))) := hid (by rw [← HPT.out]; exact hor)
  clear hor hb1 cid c20 c21 c22 c23 c24 c25 c26
  obtain ⟨cid, c20, c21, c22, c23, c24, c25, c26⟩ := HBX.out w1 HBW.out
  have hs1 : G < w1.heap.size := Nat.lt_of_lt_of_le hs0 HBW.out.size
  rcases HOR.out with ⟨hp, rfl⟩ | ⟨hp, rfl⟩
  rotate_left
  · have HNO : Hid (¬ okG t) := fun h => hp h.2.2.1
    clear HOR hp
    go_wp2_with fail
    refine (CM.out w1).mono ?_
    rintro ev w1' ⟨rfl, hw1⟩
    have hw1' := hw1.symm
    subst hw1'
    clear hw1
    go_wp2_with fail
    refine (CK.out w1).mono ?_
    rintro ev w1' ⟨rfl, hw1⟩
    have hw1' := hw1.symm
    subst hw1'
    clear hw1
    cases hk : Kn.toList.isEmpty
    all_goals
      cases b1
      all_goals
        go_wp2
        go_ret2
        exact ⟨HBE.out _ HBW.out, .inr ⟨HNO.out, rfl⟩⟩
  have HPO : Hid (okP t.per) := hp
  clear HOR hp
  go_wp2_with fail
  refine (CM.out w1).mono ?_
  rintro ev w1' ⟨rfl, hw1⟩
  have hw1' := hw1.symm
  subst hw1'
  clear hw1
  go_wp2_with fail
  refine (CK.out w1).mono ?_
  rintro ev w1' ⟨rfl, hw1⟩
  have hw1' := hw1.symm
  subst hw1'
  clear hw1
  by_cases hk : Kn.toList.isEmpty = true
  · have HNO : Hid (¬ okG t) := fun h => h.1 (by rw [HK.out]; exact hk)
    go_wp2
    go_ret2
    exact ⟨HBE.out _ HBW.out, .inr ⟨HNO.out, rfl⟩⟩
  have hk2 : Kn.toList.isEmpty = false := by simpa using hk
  cases b1 with
  | false =>
    have HNO : Hid (¬ okG t) := fun h => by have := HB1.out.2 h.2.1; cases this
    go_wp2
    go_ret2
    exact ⟨HBE.out _ HBW.out, .inr ⟨HNO.out, rfl⟩⟩
  | true =>
  cases ms with
  | false =>
    have HNO : Hid (¬ okG t) := fun h => by have h2 := h.2.2.2; rw [HMSB.out] at h2; cases h2
    go_wp2
    go_ret2
    exact ⟨HBE.out _ HBW.out, .inr ⟨HNO.out, rfl⟩⟩
  | true =>
  have HOK : Hid (okG t) := ⟨(by rw [HK.out]; exact hk), HB1.out.1 rfl, HPO.out, HMSB.out⟩
  have HN60 : Hid (N.size ≤ 60) := hid (by rw [← HNN.out, txt_size]; exact HOK.out.2.1.2.1)
  have HM2k : Hid (M.size ≤ 2000) := hid (by rw [← HMM.out, txt_size]; have := HOK.out.2.2.2; unfold isMsg at this; rw [Bool.and_eq_true] at this; exact of_decide_eq_true this.1)
  have HPL : Hid (Pt.size ≤ 1000) := hid (by rw [← HPT.out, txt_size]; exact perB_len t.per HOK.out.2.2.1)
  have HKL : Hid (Kn.size ≤ 10) := hid (by rw [← HK.out]; exact kN_len10 t.kind)
  have lw1 : (⟨#[111, 98, 106, 101, 99, 116, 32]⟩ : ByteArray).size = 7 := rfl
  have lw2 : (⟨#[10, 116, 121, 112, 101, 32]⟩ : ByteArray).size = 6 := rfl
  have lw3 : (⟨#[10, 116, 97, 103, 32]⟩ : ByteArray).size = 5 := rfl
  have lw4 : (⟨#[10, 116, 97, 103, 103, 101, 114, 32]⟩ : ByteArray).size = 8 := rfl
  have lw5 : (⟨#[10, 10]⟩ : ByteArray).size = 2 := rfl
  obtain ⟨A1, HA1⟩ : ∃ A, (⟨#[111, 98, 106, 101, 99, 116, 32]⟩ : ByteArray) ++ Hxs = A := ⟨_, rfl⟩
  have SA1 : Hid (A1.size = 7 + Hxs.size) := hid (by rw [← HA1, ByteArray.size_append, lw1])
  obtain ⟨A2, HA2⟩ : ∃ A, (A1 : ByteArray) ++ ⟨#[10, 116, 121, 112, 101, 32]⟩ = A := ⟨_, rfl⟩
  have SA2 : Hid (A2.size = A1.size + 6) := hid (by rw [← HA2, ByteArray.size_append, lw2])
  obtain ⟨A3, HA3⟩ : ∃ A, (A2 : ByteArray) ++ Kn = A := ⟨_, rfl⟩
  have SA3 : Hid (A3.size = A2.size + Kn.size) := hid (by rw [← HA3, ByteArray.size_append])
  obtain ⟨A4, HA4⟩ : ∃ A, (A3 : ByteArray) ++ ⟨#[10, 116, 97, 103, 32]⟩ = A := ⟨_, rfl⟩
  have SA4 : Hid (A4.size = A3.size + 5) := hid (by rw [← HA4, ByteArray.size_append, lw3])
  obtain ⟨A5, HA5⟩ : ∃ A, (A4 : ByteArray) ++ N = A := ⟨_, rfl⟩
  have SA5 : Hid (A5.size = A4.size + N.size) := hid (by rw [← HA5, ByteArray.size_append])
  obtain ⟨A6, HA6⟩ : ∃ A, (A5 : ByteArray) ++ ⟨#[10, 116, 97, 103, 103, 101, 114, 32]⟩ = A := ⟨_, rfl⟩
  have SA6 : Hid (A6.size = A5.size + 8) := hid (by rw [← HA6, ByteArray.size_append, lw4])
  obtain ⟨A7, HA7⟩ : ∃ A, (A6 : ByteArray) ++ Pt = A := ⟨_, rfl⟩
  have SA7 : Hid (A7.size = A6.size + Pt.size) := hid (by rw [← HA7, ByteArray.size_append])
  obtain ⟨A8, HA8⟩ : ∃ A, (A7 : ByteArray) ++ ⟨#[10, 10]⟩ = A := ⟨_, rfl⟩
  have SA8 : Hid (A8.size = A7.size + 2) := hid (by rw [← HA8, ByteArray.size_append, lw5])
  obtain ⟨A9, HA9⟩ : ∃ A, (A8 : ByteArray) ++ M = A := ⟨_, rfl⟩
  have SA9 : Hid (A9.size = A8.size + M.size) := hid (by rw [← HA9, ByteArray.size_append])
  have g0 : ¬ 9223372036854775807 < 7 + Hxs.size := by have q1 := HHL.out; have q2 := HKL.out; have q3 := HN60.out; have q4 := HPL.out; have q5 := HM2k.out; have r0 := SA1.out; omega
  have g1 : ¬ 9223372036854775807 < A1.size + 6 := by have q1 := HHL.out; have q2 := HKL.out; have q3 := HN60.out; have q4 := HPL.out; have q5 := HM2k.out; have r0 := SA1.out; have r1 := SA2.out; omega
  have g2 : ¬ 9223372036854775807 < A2.size + Kn.size := by have q1 := HHL.out; have q2 := HKL.out; have q3 := HN60.out; have q4 := HPL.out; have q5 := HM2k.out; have r0 := SA1.out; have r1 := SA2.out; have r2 := SA3.out; omega
  have g3 : ¬ 9223372036854775807 < A3.size + 5 := by have q1 := HHL.out; have q2 := HKL.out; have q3 := HN60.out; have q4 := HPL.out; have q5 := HM2k.out; have r0 := SA1.out; have r1 := SA2.out; have r2 := SA3.out; have r3 := SA4.out; omega
  have g4 : ¬ 9223372036854775807 < A4.size + N.size := by have q1 := HHL.out; have q2 := HKL.out; have q3 := HN60.out; have q4 := HPL.out; have q5 := HM2k.out; have r0 := SA1.out; have r1 := SA2.out; have r2 := SA3.out; have r3 := SA4.out; have r4 := SA5.out; omega
  have g5 : ¬ 9223372036854775807 < A5.size + 8 := by have q1 := HHL.out; have q2 := HKL.out; have q3 := HN60.out; have q4 := HPL.out; have q5 := HM2k.out; have r0 := SA1.out; have r1 := SA2.out; have r2 := SA3.out; have r3 := SA4.out; have r4 := SA5.out; have r5 := SA6.out; omega
  have g6 : ¬ 9223372036854775807 < A6.size + Pt.size := by have q1 := HHL.out; have q2 := HKL.out; have q3 := HN60.out; have q4 := HPL.out; have q5 := HM2k.out; have r0 := SA1.out; have r1 := SA2.out; have r2 := SA3.out; have r3 := SA4.out; have r4 := SA5.out; have r5 := SA6.out; have r6 := SA7.out; omega
  have g7 : ¬ 9223372036854775807 < A7.size + 2 := by have q1 := HHL.out; have q2 := HKL.out; have q3 := HN60.out; have q4 := HPL.out; have q5 := HM2k.out; have r0 := SA1.out; have r1 := SA2.out; have r2 := SA3.out; have r3 := SA4.out; have r4 := SA5.out; have r5 := SA6.out; have r6 := SA7.out; have r7 := SA8.out; omega
  have g8 : ¬ 9223372036854775807 < A8.size + M.size := by have q1 := HHL.out; have q2 := HKL.out; have q3 := HN60.out; have q4 := HPL.out; have q5 := HM2k.out; have r0 := SA1.out; have r1 := SA2.out; have r2 := SA3.out; have r3 := SA4.out; have r4 := SA5.out; have r5 := SA6.out; have r6 := SA7.out; have r7 := SA8.out; have r8 := SA9.out; omega
  have HE : Hid (A9 = ⟨TB.toArray⟩) := hid (by
    rw [← HTB.out, ← HA9, ← HA8, ← HA7, ← HA6, ← HA5, ← HA4, ← HA3, ← HA2, ← HA1, ← HHX.out, ← HPT.out, ← HNN.out, ← HMM.out, ← HK.out]
    apply ByteArray.ext
    apply Array.toList_inj.1
    simp [tagB, ln2, hexB, w_object, w_type, w_tag, w_tagger, strOfNums])
  have PE : Hid (∀ W gq cq, Below w0.heap.size w0 W → w0.heap.size ≤ gq → Mk W gq cq (nums TB) → PostU t w (.returned (.tuple #[.slice (some ⟨gq, 0, none⟩) TB.length cq, .int .i64 0])) W) := fun W gq cq a b c => by
    refine ⟨HBE.out W a, .inl ⟨HOK.out, gq, cq, ?_, Nat.le_trans (HBE.out w0 (Below.refl _ _)).size b, ?_⟩⟩
    · rw [HTB.out]
    · rw [HTB.out]; exact c
  clear cid c20 c21 c22 c23 c24 c25 c26
  have HXd : Hid (BoxL G R kd N P1 P2 tm zn M w1.drew) := hid (by
    have h := HBX.out w1 HBW.out
    exact ⟨h.id, h.c20, h.c21, h.c22, h.c23, h.c24, h.c25, h.c26⟩)
  go_wp2_with fail
  refine wp_region_held_drew (S := BoxL G R kd N P1 P2 tm zn M) (by kernel_rfl) (by exact HXd.out) (fun hHeld => ?_)
  have hsd : G < w1.drew.heap.size := hs1
  have HBd : Hid (Below w0.heap.size w0 w1.drew) := hid ⟨HBW.out.os, HBW.out.tape, HBW.out.output, HBW.out.size, HBW.out.block⟩
  clear HXd
  generalize w1.drew = wd at hHeld hsd HBd ⊢
  refine takeL (i := 0) (v := ?_) rfl (by kernel_rfl) (by kernel_rfl) (by kernel_rfl) (fun _ _ _ h => h) (Or.inl ⟨by rfl, ?_⟩) hHeld ?_
  rotate_left
  · rintro w' ⟨cid, c20, c21, c22, c23, c24, c25, c26⟩; go_simp; rfl
  try simp only [Act.put, List.setIfInBounds_toArray, List.set_cons_zero, List.set_cons_succ]
  refine takeL (i := 1) (v := .agg R.toArray) rfl (by kernel_rfl) (by kernel_rfl) (by kernel_rfl) (fun _ _ _ h => h) (yieldsIf_load_mid (by rfl) 31 _ rfl G 0 (by rfl) R _ (fun w' h => h.id) Tryz.underlying31 rfl HI31.out) hHeld ?_
  try simp only [Act.put, List.setIfInBounds_toArray, List.set_cons_zero, List.set_cons_succ]
  refine takeL (i := 5) (v := ?_) rfl (by kernel_rfl) (by kernel_rfl) (by kernel_rfl) (fun _ _ _ h => h) (Or.inl ⟨by rfl, ?_⟩) hHeld ?_
  rotate_left
  · rintro w' ⟨cid, c20, c21, c22, c23, c24, c25, c26⟩; go_simp; rfl
  try simp only [Act.put, List.setIfInBounds_toArray, List.set_cons_zero, List.set_cons_succ]
  refine takeL (i := 6) (v := ?_) rfl (by kernel_rfl) (by kernel_rfl) (by kernel_rfl) (fun _ _ _ h => h) (Or.inl ⟨by rfl, ?_⟩) hHeld ?_
  rotate_left
  · rintro w' ⟨cid, c20, c21, c22, c23, c24, c25, c26⟩; go_simp; rfl
  try simp only [Act.put, List.setIfInBounds_toArray, List.set_cons_zero, List.set_cons_succ]
  refine takeL (i := 10) (v := ?_) rfl (by kernel_rfl) (by kernel_rfl) (by kernel_rfl) (fun _ _ _ h => h) (Or.inl ⟨by rfl, ?_⟩) hHeld ?_
  rotate_left
  · rintro w' ⟨cid, c20, c21, c22, c23, c24, c25, c26⟩; go_simp; rfl
  try simp only [Act.put, List.setIfInBounds_toArray, List.set_cons_zero, List.set_cons_succ]
  refine takeL (i := 11) (v := ?_) rfl (by kernel_rfl) (by kernel_rfl) (by kernel_rfl) (fun _ _ _ h => h) (Or.inl ⟨by rfl, ?_⟩) hHeld ?_
  rotate_left
  · rintro w' ⟨cid, c20, c21, c22, c23, c24, c25, c26⟩; go_simp; rfl
  try simp only [Act.put, List.setIfInBounds_toArray, List.set_cons_zero, List.set_cons_succ]
  refine takeL (i := 14) (v := ?_) rfl (by kernel_rfl) (by kernel_rfl) (by kernel_rfl) (fun _ _ _ h => h) (Or.inl ⟨by rfl, ?_⟩) hHeld ?_
  rotate_left
  · rintro w' ⟨cid, c20, c21, c22, c23, c24, c25, c26⟩; go_simp; rfl
  try simp only [Act.put, List.setIfInBounds_toArray, List.set_cons_zero, List.set_cons_succ]
  refine takeL (i := 17) (v := ?_) rfl (by kernel_rfl) (by kernel_rfl) (by kernel_rfl) (fun _ _ _ h => h) (Or.inl ⟨by rfl, ?_⟩) hHeld ?_
  rotate_left
  · rintro w' ⟨cid, c20, c21, c22, c23, c24, c25, c26⟩; go_simp; rfl
  try simp only [Act.put, List.setIfInBounds_toArray, List.set_cons_zero, List.set_cons_succ]
  refine takeL (i := 18) (v := ?_) rfl (by kernel_rfl) (by kernel_rfl) (by kernel_rfl) (fun _ _ _ h => h) (Or.inl ⟨by rfl, ?_⟩) hHeld ?_
  rotate_left
  · rintro w' ⟨cid, c20, c21, c22, c23, c24, c25, c26⟩; go_simp; rfl
  try simp only [Act.put, List.setIfInBounds_toArray, List.set_cons_zero, List.set_cons_succ]
  refine wpAnyH_ready (rs := [2]) (by kernel_rfl) (by simp) ?_
  refine consL rfl (fun KK hKK => ?_) AllReadyH.nil
  refine step_callv (by rfl) 60 [.tmp 38] _ [.agg R.toArray] _ (by rfl) (by rfl) (enter60 _) (CH.out _) ?_
  rintro e w2 ⟨rfl, hb2⟩
  refine ⟨_, rfl, ?_⟩
  have HB2 : Hid (Below w0.heap.size w0 w2) := HBd.out.trans (hb2.mono HBd.out.size)
  refine hKK.out _ _ (hHeld.below hsd hb2) (fun hHeld => ?_)
  clear hKK KK hb2
  try simp only [Act.put, List.setIfInBounds_toArray, List.set_cons_zero, List.set_cons_succ]
  refine takeL (i := 3) (v := ?_) rfl (by kernel_rfl) (by kernel_rfl) (by kernel_rfl) (fun _ _ _ h => h) (Or.inl ⟨by rfl, ?_⟩) hHeld ?_
  rotate_left
  · rintro w' ⟨cid, c20, c21, c22, c23, c24, c25, c26⟩; go_simp; rfl
  try simp only [Act.put, List.setIfInBounds_toArray, List.set_cons_zero, List.set_cons_succ]
  refine takeL (i := 4) (v := ?_) rfl (by kernel_rfl) (by kernel_rfl) (by kernel_rfl) (fun _ _ _ h => h) (Or.inl ⟨by rfl, ?_⟩) hHeld ?_
  rotate_left
  · rintro w' ⟨cid, c20, c21, c22, c23, c24, c25, c26⟩; go_simp; rfl
  try simp only [Act.put, List.setIfInBounds_toArray, List.set_cons_zero, List.set_cons_succ]
  refine wpAnyH_ready (rs := [7]) (by kernel_rfl) (by simp) ?_
  refine consL rfl (fun KK hKK => ?_) AllReadyH.nil
  refine step_callv (by rfl) 37 [.tmp 43] _ [.int .i64 kd] _ (by rfl) (by rfl) (enter37 _) (CK.out _) ?_
  rintro e w2' ⟨rfl, hw2⟩
  refine ⟨_, rfl, ?_⟩
  have hw2' := hw2.symm
  subst hw2'
  refine hKK.out _ _ hHeld (fun hHeld => ?_)
  clear hKK KK hw2
  try simp only [Act.put, List.setIfInBounds_toArray, List.set_cons_zero, List.set_cons_succ]
  refine takeL (i := 8) (v := ?_) rfl (by kernel_rfl) (by kernel_rfl) (by kernel_rfl) (fun _ _ _ h => h) (Or.inl ⟨by rfl, ?_⟩) hHeld ?_
  rotate_left
  · rintro w' ⟨cid, c20, c21, c22, c23, c24, c25, c26⟩; go_simp; rfl
  try simp only [Act.put, List.setIfInBounds_toArray, List.set_cons_zero, List.set_cons_succ]
  refine takeL (i := 9) (v := ?_) rfl (by kernel_rfl) (by kernel_rfl) (by kernel_rfl) (fun _ _ _ h => h) (Or.inl ⟨by rfl, ?_⟩) hHeld ?_
  rotate_left
  · rintro w' ⟨cid, c20, c21, c22, c23, c24, c25, c26⟩; go_simp; rfl
  try simp only [Act.put, List.setIfInBounds_toArray, List.set_cons_zero, List.set_cons_succ]
  refine takeL (i := 12) (v := ?_) rfl (by kernel_rfl) (by kernel_rfl) (by kernel_rfl) (fun _ _ _ h => h) (Or.inl ⟨by rfl, ?_⟩) hHeld ?_
  rotate_left
  · rintro w' ⟨cid, c20, c21, c22, c23, c24, c25, c26⟩; go_simp; rfl
  try simp only [Act.put, List.setIfInBounds_toArray, List.set_cons_zero, List.set_cons_succ]
  refine takeL (i := 13) (v := ?_) rfl (by kernel_rfl) (by kernel_rfl) (by kernel_rfl) (fun _ _ _ h => h) (Or.inl ⟨by rfl, ?_⟩) hHeld ?_
  rotate_left
  · rintro w' ⟨cid, c20, c21, c22, c23, c24, c25, c26⟩; go_simp; rfl
  try simp only [Act.put, List.setIfInBounds_toArray, List.set_cons_zero, List.set_cons_succ]
  refine takeL (i := 15) (v := ?_) rfl (by kernel_rfl) (by kernel_rfl) (by kernel_rfl) (fun _ _ _ h => h) (Or.inl ⟨by rfl, ?_⟩) hHeld ?_
  rotate_left
  · rintro w' ⟨cid, c20, c21, c22, c23, c24, c25, c26⟩; go_simp; rfl
  try simp only [Act.put, List.setIfInBounds_toArray, List.set_cons_zero, List.set_cons_succ]
  refine takeL (i := 16) (v := ?_) rfl (by kernel_rfl) (by kernel_rfl) (by kernel_rfl) (fun _ _ _ h => h) (Or.inl ⟨by rfl, ?_⟩) hHeld ?_
  rotate_left
  · rintro w' ⟨cid, c20, c21, c22, c23, c24, c25, c26⟩; go_simp; rfl
  try simp only [Act.put, List.setIfInBounds_toArray, List.set_cons_zero, List.set_cons_succ]
  refine takeL (i := 19) (v := ?_) rfl (by kernel_rfl) (by kernel_rfl) (by kernel_rfl) (fun _ _ _ h => h) (Or.inl ⟨by rfl, ?_⟩) hHeld ?_
  rotate_left
  · rintro w' ⟨cid, c20, c21, c22, c23, c24, c25, c26⟩; go_simp; rfl
  try simp only [Act.put, List.setIfInBounds_toArray, List.set_cons_zero, List.set_cons_succ]
  refine takeL (i := 20) (v := ?_) rfl (by kernel_rfl) (by kernel_rfl) (by kernel_rfl) (fun _ _ _ h => h) (Or.inl ⟨by rfl, ?_⟩) hHeld ?_
  rotate_left
  · rintro w' ⟨cid, c20, c21, c22, c23, c24, c25, c26⟩; go_simp; rfl
  try simp only [Act.put, List.setIfInBounds_toArray, List.set_cons_zero, List.set_cons_succ]
  refine wpAnyH_done (by kernel_rfl) ?_ _
  obtain ⟨c2, w3, hr3, hm3, hb3, hs3⟩ := conv_mk TB w2
  rw [← HE.out] at hr3
  have HM3 : Hid _ := hm3
  have HB3 : Hid (Below w0.heap.size w0 w3) := HB2.out.trans (hb3.mono HB2.out.size)
  clear hm3 hb3 hHeld
  obtain ⟨L, HL⟩ : ∃ L, Hid (TB.length = L) := ⟨_, rfl⟩
  rw [HL.out] at hr3
  rw [HL.out] at PE
  go_wp2
  go_ret2
  exact PE.out _ _ c2 HB3.out HB2.out.size HM3.out
end Go.Proofs.YtbpdielmdhhdfaaGreatDoor
