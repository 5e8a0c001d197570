import Derived.Test.YtbpdielmdhhdfaaGreatDoorMu25
import Derived.Test.YtbpdielmdhhdfaaGreatDoorMu11
import Derived.Test.YtbpdielmdhhdfaaGreatDoorMu16
import Derived.Test.YtbpdielmdhhdfaaGreatDoorMu17
/- The document's side of chapter 3: a person, in bytes. -/
namespace Go.Proofs.YtbpdielmdhhdfaaGreatDoor
open Go.RowKit
set_option linter.unusedVariables false
set_option linter.unusedSimpArgs false
theorem enter38 (v : Value) (w : World) : (callFunc 38 #[v]).run Tryz.prog w = .ok (.enter 38 #[v]) w := by kernel_rfl
/-- What 'Text' gives. -/
def PostX (p : Per) (w : World) (e : Ending) (w' : World) : Prop := Below w.heap.size w w' ∧ ((okP p ∧ e = .returned (.tuple #[.string ⟨(perB p).toArray⟩, .bool true])) ∨ (¬ okP p ∧ e = .returned (.tuple #[.string ⟨#[]⟩, .bool false])))
set_option maxRecDepth 20000 in
set_option maxHeartbeats 2000000 in
theorem text_any (p : Per) (w : World) : Calls Tryz.prog 58 #[.agg (perV p)] w (PostX p w) := by
  obtain ⟨nm, ml, tm, zn⟩ := p
  obtain ⟨N, HNN⟩ : ∃ S : ByteArray, Hid (S = ⟨nm.toArray⟩) := ⟨_, rfl⟩
  obtain ⟨M, HMM⟩ : ∃ S : ByteArray, Hid (S = ⟨ml.toArray⟩) := ⟨_, rfl⟩
  have HN : Hid (∀ w, Calls Tryz.prog 103 #[.string N] w fun e w' => BIs (okT nm) e ∧ w' = w) := fun w => by rw [HNN.out]; exact plain_any nm w
  have HM : Hid (∀ w, Calls Tryz.prog 103 #[.string M] w fun e w' => BIs (okT ml) e ∧ w' = w) := fun w => by rw [HMM.out]; exact plain_any ml w
  obtain ⟨G, HG⟩ : ∃ G, Hid (w.heap.size = G) := ⟨_, rfl⟩
  obtain ⟨w0, HW0⟩ : ∃ w0, Hid (w.alloc (.cells #[.string N, .string M, .int .i64 tm, .int .i64 zn] 64) = w0) := ⟨_, rfl⟩
  have HB0 : Hid (Below G w w0) := hid (by rw [← HW0.out, ← HG.out]; exact (Below.refl _ w).alloc (Nat.le_refl _) _)
  have hs0 : G < w0.heap.size := by rw [← HW0.out, ← HG.out]; simp
  have HX0 : Hid (BoxP G N M tm zn w0) := hid (by rw [← HW0.out, ← HG.out]; exact ⟨by simp, by simp, by simp, by simp⟩)
  have HBE : Hid (Below w.heap.size w w0) := hid (by rw [HG.out]; exact HB0.out)
  obtain ⟨c0, c1, c2, c3⟩ := HX0.out
  unfold perV
  simp only
  rw [← HNN.out, ← HMM.out]
  go_enter Tryz.func58, Tryz.ntmps58
  go_wp2_with fail
  rw [HG.out, HW0.out]
  refine (HN.out w0).mono ?_
  rintro ev w0' ⟨hb, hw0⟩
  have hw0' := hw0.symm
  subst hw0'
  clear hw0
  rcases bis_or hb with ⟨hy1, rfl⟩ | ⟨hn1, rfl⟩
  rotate_left
  · have HOK : Hid (¬ okP ⟨nm, ml, tm, zn⟩) := fun h => hn1 h.1
    clear hn1 hb
    go_wp2_with fail
    refine (HM.out w0).mono ?_
    rintro ev w0' ⟨hb, hw0⟩
    have hw0' := hw0.symm
    subst hw0'
    clear hw0
    rcases bis_or hb with ⟨hy2, rfl⟩ | ⟨hn2, rfl⟩
    all_goals
      clear hb
      go_wp2
      go_ret2
      exact ⟨HBE.out, .inr ⟨HOK.out, rfl⟩⟩
  have HY1 : Hid (okT nm) := hy1
  clear hy1 hb
  go_wp2_with fail
  refine (HM.out w0).mono ?_
  rintro ev w0' ⟨hb, hw0⟩
  have hw0' := hw0.symm
  subst hw0'
  clear hw0
  rcases bis_or hb with ⟨hy2, rfl⟩ | ⟨hn2, rfl⟩
  rotate_left
  · have HOK : Hid (¬ okP ⟨nm, ml, tm, zn⟩) := fun h => hn2 h.2.1
    clear hn2 hb
    go_wp2
    go_ret2
    exact ⟨HBE.out, .inr ⟨HOK.out, rfl⟩⟩
  have HY2 : Hid (okT ml) := hy2
  clear hy2 hb
  by_cases t1 : tm < 0
  · have HOK : Hid (¬ okP ⟨nm, ml, tm, zn⟩) := fun h => by have h2 := h.2.2.1.1; simp only at h2; omega
    go_wp2
    go_ret2
    exact ⟨HBE.out, .inr ⟨HOK.out, rfl⟩⟩
  by_cases t2 : (1099511627776 : Int) < tm
  · have HOK : Hid (¬ okP ⟨nm, ml, tm, zn⟩) := fun h => by have h2 := h.2.2.1.2; simp only at h2; omega
    go_wp2
    go_ret2
    exact ⟨HBE.out, .inr ⟨HOK.out, rfl⟩⟩
  by_cases t3 : zn < -840
  · have HOK : Hid (¬ okP ⟨nm, ml, tm, zn⟩) := fun h => by have h2 := h.2.2.2.1; simp only at h2; omega
    go_wp2
    go_ret2
    exact ⟨HBE.out, .inr ⟨HOK.out, rfl⟩⟩
  by_cases t4 : (840 : Int) < zn
  · have HOK : Hid (¬ okP ⟨nm, ml, tm, zn⟩) := fun h => by have h2 := h.2.2.2.2; simp only at h2; omega
    go_wp2
    go_ret2
    exact ⟨HBE.out, .inr ⟨HOK.out, rfl⟩⟩
  have HOK : Hid (okP ⟨nm, ml, tm, zn⟩) := ⟨HY1.out, HY2.out, ⟨(by simp only; omega), (by simp only; omega)⟩, (by simp only; omega), (by simp only; omega)⟩
  obtain ⟨tn, rfl⟩ : ∃ tn : Nat, tm = (tn : Int) := ⟨tm.toNat, by omega⟩
  have htn : tn ≤ 1099511627776 := by omega
  obtain ⟨zz, HZZ⟩ : ∃ zz : Nat, Hid (zn.natAbs = zz) := ⟨_, rfl⟩
  have hzz : zz ≤ 840 := by have := HZZ.out; omega
  obtain ⟨hh, HHH⟩ : ∃ x : Nat, Hid (zz / 60 = x) := ⟨_, rfl⟩
  obtain ⟨mm, HMI⟩ : ∃ x : Nat, Hid (zz % 60 = x) := ⟨_, rfl⟩
  have hq1 : (zz : Int) / 60 = (hh : Int) := by have := HHH.out; omega
  have hq2 : (zz : Int) % 60 = (mm : Int) := by have := HMI.out; omega
  have hhb : hh ≤ 14 := by have := HHH.out; omega
  have hmb : mm ≤ 59 := by have := HMI.out; omega
  obtain ⟨x1, HX1⟩ : ∃ x : UInt8, Hid (x = UInt8.ofNat (48 + hh / 10)) := ⟨_, rfl⟩
  obtain ⟨x2, HX2⟩ : ∃ x : UInt8, Hid (x = UInt8.ofNat (48 + hh % 10)) := ⟨_, rfl⟩
  obtain ⟨x3, HX3⟩ : ∃ x : UInt8, Hid (x = UInt8.ofNat (48 + mm / 10)) := ⟨_, rfl⟩
  obtain ⟨x4, HX4⟩ : ∃ x : UInt8, Hid (x = UInt8.ofNat (48 + mm % 10)) := ⟨_, rfl⟩
  have hx1 : (48 : Int) + (hh : Int) / 10 = (x1.toNat : Int) := by rw [HX1.out, UInt8.toNat_ofNat']; omega
  have hx2 : (48 : Int) + (hh : Int) % 10 = (x2.toNat : Int) := by rw [HX2.out, UInt8.toNat_ofNat']; omega
  have hx3 : (48 : Int) + (mm : Int) / 10 = (x3.toNat : Int) := by rw [HX3.out, UInt8.toNat_ofNat']; omega
  have hx4 : (48 : Int) + (mm : Int) % 10 = (x4.toNat : Int) := by rw [HX4.out, UInt8.toNat_ofNat']; omega
  obtain ⟨Z, HZD⟩ : ∃ S : ByteArray, Hid (⟨#[x1, x2, x3, x4]⟩ = S) := ⟨_, rfl⟩
  have hcv : Sem.run Tryz.prog (convert 23 9 (.slice (some ⟨w0.heap.size, 0, none⟩) 4 4)) (w0.alloc (.cells #[.int .u8 (x1.toNat : Int), .int .u8 (x2.toNat : Int), .int .u8 (x3.toNat : Int), .int .u8 (x4.toNat : Int)] 5)) = .ok (.string Z) (w0.alloc (.cells #[.int .u8 (x1.toNat : Int), .int .u8 (x2.toNat : Int), .int .u8 (x3.toNat : Int), .int .u8 (x4.toNat : Int)] 5)) := by
    rw [← HZD.out]
    refine run_convert_bytes_back _ 23 9 5 ⟨w0.heap.size, 0, none⟩ 4 [x1, x2, x3, x4] Tryz.underlying23 Tryz.underlying5 Tryz.underlying9 ?_
    intro j hj
    have hj4 : j < 4 := by simpa using hj
    match j, hj4 with
    | 0, _ => simp [Addr.add]
    | 1, _ => simp [Addr.add]
    | 2, _ => simp [Addr.add]
    | 3, _ => simp [Addr.add]
  have hN60 : N.size ≤ 60 := by have := HY1.out.1; rw [HNN.out]; simpa [ByteArray.size] using this
  have hM60 : M.size ≤ 60 := by have := HY2.out.1; rw [HMM.out]; simpa [ByteArray.size] using this
  obtain ⟨D, HDD⟩ : ∃ S : ByteArray, Hid (S = ⟨(Lib.decDigits tn).toArray⟩) := ⟨_, rfl⟩
  have hD : D.size ≤ 13 := by rw [HDD.out]; have := dig_len40 tn htn; simpa [ByteArray.size] using this
  have HF : Hid (∀ W, Calls Tryz.prog 38 #[.int .i64 tn] W fun e w' => e = .returned (.string D) ∧ Below W.heap.size W w') := fun W => by rw [HDD.out]; exact decimal_big tn htn W
  obtain ⟨sg, HSG⟩ : ∃ S : ByteArray, Hid (S = if zn < 0 then ⟨#[45]⟩ else ⟨#[43]⟩) := ⟨_, rfl⟩
  have hsg1 : sg.size = 1 := by rw [HSG.out]; split <;> rfl
  have hZ4 : Z.size = 4 := by rw [← HZD.out]; rfl
  have l1 : (⟨#[32, 60]⟩ : ByteArray).size = 2 := rfl
  have l2 : (⟨#[62, 32]⟩ : ByteArray).size = 2 := rfl
  have l3 : (⟨#[32]⟩ : ByteArray).size = 1 := rfl
  obtain ⟨A1, HA1⟩ : ∃ A, N ++ ⟨#[32, 60]⟩ = A := ⟨_, rfl⟩
  have s1 : A1.size = N.size + 2 := by rw [← HA1, ByteArray.size_append, l1]
  obtain ⟨A2, HA2⟩ : ∃ A, A1 ++ M = A := ⟨_, rfl⟩
  have s2 : A2.size = A1.size + M.size := by rw [← HA2, ByteArray.size_append]
  obtain ⟨A3, HA3⟩ : ∃ A, A2 ++ ⟨#[62, 32]⟩ = A := ⟨_, rfl⟩
  have s3 : A3.size = A2.size + 2 := by rw [← HA3, ByteArray.size_append, l2]
  obtain ⟨A4, HA4⟩ : ∃ A, A3 ++ D = A := ⟨_, rfl⟩
  have s4 : A4.size = A3.size + D.size := by rw [← HA4, ByteArray.size_append]
  obtain ⟨A5, HA5⟩ : ∃ A, A4 ++ ⟨#[32]⟩ = A := ⟨_, rfl⟩
  have s5 : A5.size = A4.size + 1 := by rw [← HA5, ByteArray.size_append, l3]
  obtain ⟨A6, HA6⟩ : ∃ A, A5 ++ sg = A := ⟨_, rfl⟩
  have s6 : A6.size = A5.size + sg.size := by rw [← HA6, ByteArray.size_append]
  obtain ⟨A7, HA7⟩ : ∃ A, A6 ++ Z = A := ⟨_, rfl⟩
  have g1 : ¬ 9223372036854775807 < N.size + 2 := by omega
  have g2 : ¬ 9223372036854775807 < A1.size + M.size := by omega
  have g3 : ¬ 9223372036854775807 < A2.size + 2 := by omega
  have g4 : ¬ 9223372036854775807 < A3.size + D.size := by omega
  have g5 : ¬ 9223372036854775807 < A4.size + 1 := by omega
  have g5' : ¬ 9223372036854775807 ≤ A4.size := by omega
  have g6 : ¬ 9223372036854775807 < A5.size + 1 := by omega
  have g6' : ¬ 9223372036854775807 ≤ A5.size := by omega
  have g7 : ¬ 9223372036854775807 < A6.size + 4 := by omega
  have HE : Hid (A7 = ⟨(perB ⟨nm, ml, tn, zn⟩).toArray⟩) := hid (by
    have hz : Z = ⟨(two (zn.natAbs / 60) ++ two (zn.natAbs % 60)).toArray⟩ := by
      rw [← HZD.out, HZZ.out, HHH.out, HMI.out, HX1.out, HX2.out, HX3.out, HX4.out]
      rfl
    have hsg : sg = ⟨[if zn < 0 then 45 else 43].toArray⟩ := by rw [HSG.out]; split <;> rfl
    rw [← HA7, ← HA6, ← HA5, ← HA4, ← HA3, ← HA2, ← HA1, hz, hsg, HDD.out, HNN.out, HMM.out, show (⟨#[32, 60]⟩ : ByteArray) = ⟨[32, 60].toArray⟩ from rfl, show (⟨#[62, 32]⟩ : ByteArray) = ⟨[62, 32].toArray⟩ from rfl, show (⟨#[32]⟩ : ByteArray) = ⟨[32].toArray⟩ from rfl]
    simp only [str_add]
    simp [perB, zoneB])
  clear s1 s2 s3 s4 s5 s6
  obtain ⟨wz, HWZ⟩ : ∃ W, Hid (w0.alloc (.cells #[.int .u8 (x1.toNat : Int), .int .u8 (x2.toNat : Int), .int .u8 (x3.toNat : Int), .int .u8 (x4.toNat : Int)] 5) = W) := ⟨_, rfl⟩
  have hbz : Below w0.heap.size w0 wz := by rw [← HWZ.out]; exact (Below.refl _ _).alloc (Nat.le_refl _) _
  have hsz : G < wz.heap.size := Nat.lt_of_lt_of_le hs0 hbz.size
  have HBz : Hid (Below G w wz) := HB0.out.trans (hbz.mono (Nat.le_of_lt hs0))
  have HXz : Hid (BoxP G N M tn zn wz) := HX0.out.below hs0 hbz
  clear hbz
  have PE : Hid (∀ W, Below G w W → PostX ⟨nm, ml, tn, zn⟩ w (.returned (.tuple #[.string A7, .bool true])) W) := fun W hW => ⟨by rw [HG.out]; exact hW, .inl ⟨HOK.out, by rw [HE.out]⟩⟩
  by_cases hz : zn < 0
  · have hng : -zn = (zz : Int) := by have := HZZ.out; omega
    have hsg : sg = ⟨#[45]⟩ := by rw [HSG.out, if_pos hz]
    clear HSG HE
    subst hsg
    go_wp2_with fail
    rw [HWZ.out]
    clear hcv c0 c1 c2 c3
    refine wp_region_held_drew (S := BoxP G N M tn zn) (by kernel_rfl) (by exact HXz.out) (fun hHeld => ?_)
    have hsd : G < wz.drew.heap.size := hsz
    have HBd : Hid (Below G w wz.drew) := hid ⟨HBz.out.os, HBz.out.tape, HBz.out.output, HBz.out.size, HBz.out.block⟩
    generalize wz.drew = wd at hHeld hsd HBd ⊢
    refine takeL (i := 0) (v := ?_) rfl (by kernel_rfl) (by kernel_rfl) (by kernel_rfl) (fun _ _ _ h => h) (Or.inl ⟨by rfl, ?_⟩) hHeld ?_
    rotate_left
    · rintro w' ⟨c0, c1, c2, c3⟩; go_simp; rfl
    try simp only [Act.put, List.setIfInBounds_toArray, List.set_cons_zero, List.set_cons_succ]
    refine takeL (i := 1) (v := ?_) rfl (by kernel_rfl) (by kernel_rfl) (by kernel_rfl) (fun _ _ _ h => h) (Or.inl ⟨by rfl, ?_⟩) hHeld ?_
    rotate_left
    · rintro w' ⟨c0, c1, c2, c3⟩; go_simp; rfl
    try simp only [Act.put, List.setIfInBounds_toArray, List.set_cons_zero, List.set_cons_succ]
    refine takeL (i := 2) (v := ?_) rfl (by kernel_rfl) (by kernel_rfl) (by kernel_rfl) (fun _ _ _ h => h) (Or.inl ⟨by rfl, ?_⟩) hHeld ?_
    rotate_left
    · rintro w' ⟨c0, c1, c2, c3⟩; go_simp; rfl
    try simp only [Act.put, List.setIfInBounds_toArray, List.set_cons_zero, List.set_cons_succ]
    refine takeL (i := 3) (v := ?_) rfl (by kernel_rfl) (by kernel_rfl) (by kernel_rfl) (fun _ _ _ h => h) (Or.inl ⟨by rfl, ?_⟩) hHeld ?_
    rotate_left
    · rintro w' ⟨c0, c1, c2, c3⟩; go_simp; rfl
    try simp only [Act.put, List.setIfInBounds_toArray, List.set_cons_zero, List.set_cons_succ]
    refine takeL (i := 4) (v := ?_) rfl (by kernel_rfl) (by kernel_rfl) (by kernel_rfl) (fun _ _ _ h => h) (Or.inl ⟨by rfl, ?_⟩) hHeld ?_
    rotate_left
    · rintro w' ⟨c0, c1, c2, c3⟩; go_simp; rfl
    try simp only [Act.put, List.setIfInBounds_toArray, List.set_cons_zero, List.set_cons_succ]
    refine takeL (i := 5) (v := ?_) rfl (by kernel_rfl) (by kernel_rfl) (by kernel_rfl) (fun _ _ _ h => h) (Or.inl ⟨by rfl, ?_⟩) hHeld ?_
    rotate_left
    · rintro w' ⟨c0, c1, c2, c3⟩; go_simp; rfl
    try simp only [Act.put, List.setIfInBounds_toArray, List.set_cons_zero, List.set_cons_succ]
    refine takeL (i := 6) (v := ?_) rfl (by kernel_rfl) (by kernel_rfl) (by kernel_rfl) (fun _ _ _ h => h) (Or.inl ⟨by rfl, ?_⟩) hHeld ?_
    rotate_left
    · rintro w' ⟨c0, c1, c2, c3⟩; go_simp; rfl
    try simp only [Act.put, List.setIfInBounds_toArray, List.set_cons_zero, List.set_cons_succ]
    refine takeL (i := 7) (v := ?_) rfl (by kernel_rfl) (by kernel_rfl) (by kernel_rfl) (fun _ _ _ h => h) (Or.inl ⟨by rfl, ?_⟩) hHeld ?_
    rotate_left
    · rintro w' ⟨c0, c1, c2, c3⟩; go_simp; rfl
    try simp only [Act.put, List.setIfInBounds_toArray, List.set_cons_zero, List.set_cons_succ]
    refine takeL (i := 8) (v := ?_) rfl (by kernel_rfl) (by kernel_rfl) (by kernel_rfl) (fun _ _ _ h => h) (Or.inl ⟨by rfl, ?_⟩) hHeld ?_
    rotate_left
    · rintro w' ⟨c0, c1, c2, c3⟩; go_simp; rfl
    try simp only [Act.put, List.setIfInBounds_toArray, List.set_cons_zero, List.set_cons_succ]
    refine takeL (i := 12) (v := ?_) rfl (by kernel_rfl) (by kernel_rfl) (by kernel_rfl) (fun _ _ _ h => h) (Or.inl ⟨by rfl, ?_⟩) hHeld ?_
    rotate_left
    · rintro w' ⟨c0, c1, c2, c3⟩; go_simp; rfl
    try simp only [Act.put, List.setIfInBounds_toArray, List.set_cons_zero, List.set_cons_succ]
    refine takeL (i := 14) (v := ?_) rfl (by kernel_rfl) (by kernel_rfl) (by kernel_rfl) (fun _ _ _ h => h) (Or.inl ⟨by rfl, ?_⟩) hHeld ?_
    rotate_left
    · rintro w' ⟨c0, c1, c2, c3⟩; go_simp; rfl
    try simp only [Act.put, List.setIfInBounds_toArray, List.set_cons_zero, List.set_cons_succ]
    refine wpAnyH_ready (rs := [9]) (by kernel_rfl) (by simp) ?_
    refine consL rfl (fun KK hKK => ?_) AllReadyH.nil
    refine step_callv (by rfl) 38 [.tmp 79] _ [.int .i64 tn] _ (by rfl) (by rfl) (enter38 _) (HF.out _) ?_
    rintro e w1 ⟨rfl, hb1⟩
    refine ⟨_, rfl, ?_⟩
    have HB1 : Hid (Below G w w1) := HBd.out.trans (hb1.mono (Nat.le_of_lt hsd))
    refine hKK.out _ _ (hHeld.below hsd hb1) (fun hHeld => ?_)
    clear hKK KK hb1
    try simp only [Act.put, List.setIfInBounds_toArray, List.set_cons_zero, List.set_cons_succ]
    refine takeL (i := 10) (v := ?_) rfl (by kernel_rfl) (by kernel_rfl) (by kernel_rfl) (fun _ _ _ h => h) (Or.inl ⟨by rfl, ?_⟩) hHeld ?_
    rotate_left
    · rintro w' ⟨c0, c1, c2, c3⟩; go_simp; rfl
    try simp only [Act.put, List.setIfInBounds_toArray, List.set_cons_zero, List.set_cons_succ]
    refine takeL (i := 11) (v := ?_) rfl (by kernel_rfl) (by kernel_rfl) (by kernel_rfl) (fun _ _ _ h => h) (Or.inl ⟨by rfl, ?_⟩) hHeld ?_
    rotate_left
    · rintro w' ⟨c0, c1, c2, c3⟩; go_simp; rfl
    try simp only [Act.put, List.setIfInBounds_toArray, List.set_cons_zero, List.set_cons_succ]
    refine takeL (i := 13) (v := ?_) rfl (by kernel_rfl) (by kernel_rfl) (by kernel_rfl) (fun _ _ _ h => h) (Or.inl ⟨by rfl, ?_⟩) hHeld ?_
    rotate_left
    · rintro w' ⟨c0, c1, c2, c3⟩; go_simp; rfl
    try simp only [Act.put, List.setIfInBounds_toArray, List.set_cons_zero, List.set_cons_succ]
    refine takeL (i := 15) (v := ?_) rfl (by kernel_rfl) (by kernel_rfl) (by kernel_rfl) (fun _ _ _ h => h) (Or.inl ⟨by rfl, ?_⟩) hHeld ?_
    rotate_left
    · rintro w' ⟨c0, c1, c2, c3⟩; go_simp; rfl
    try simp only [Act.put, List.setIfInBounds_toArray, List.set_cons_zero, List.set_cons_succ]
    refine takeL (i := 16) (v := ?_) rfl (by kernel_rfl) (by kernel_rfl) (by kernel_rfl) (fun _ _ _ h => h) (Or.inl ⟨by rfl, ?_⟩) hHeld ?_
    rotate_left
    · rintro w' ⟨c0, c1, c2, c3⟩; go_simp; rfl
    try simp only [Act.put, List.setIfInBounds_toArray, List.set_cons_zero, List.set_cons_succ]
    refine takeL (i := 17) (v := ?_) rfl (by kernel_rfl) (by kernel_rfl) (by kernel_rfl) (fun _ _ _ h => h) (Or.inl ⟨by rfl, ?_⟩) hHeld ?_
    rotate_left
    · rintro w' ⟨c0, c1, c2, c3⟩; go_simp; rfl
    try simp only [Act.put, List.setIfInBounds_toArray, List.set_cons_zero, List.set_cons_succ]
    refine wpAnyH_done (by kernel_rfl) ?_ _
    go_wp2
    go_ret2
    exact PE.out _ HB1.out
  · have hzn : zn = (zz : Int) := by have := HZZ.out; omega
    have hsg : sg = ⟨#[43]⟩ := by rw [HSG.out, if_neg hz]
    clear HSG HE HZZ
    subst hsg
    subst hzn
    have hz0 : ¬ (zz : Int) < 0 := hz
    go_wp2_with fail
    rw [HWZ.out]
    clear hcv c0 c1 c2 c3
    refine wp_region_held_drew (S := BoxP G N M tn (zz : Int)) (by kernel_rfl) (by exact HXz.out) (fun hHeld => ?_)
    have hsd : G < wz.drew.heap.size := hsz
    have HBd : Hid (Below G w wz.drew) := hid ⟨HBz.out.os, HBz.out.tape, HBz.out.output, HBz.out.size, HBz.out.block⟩
    generalize wz.drew = wd at hHeld hsd HBd ⊢
    refine takeL (i := 0) (v := ?_) rfl (by kernel_rfl) (by kernel_rfl) (by kernel_rfl) (fun _ _ _ h => h) (Or.inl ⟨by rfl, ?_⟩) hHeld ?_
    rotate_left
    · rintro w' ⟨c0, c1, c2, c3⟩; go_simp; rfl
    try simp only [Act.put, List.setIfInBounds_toArray, List.set_cons_zero, List.set_cons_succ]
    refine takeL (i := 1) (v := ?_) rfl (by kernel_rfl) (by kernel_rfl) (by kernel_rfl) (fun _ _ _ h => h) (Or.inl ⟨by rfl, ?_⟩) hHeld ?_
    rotate_left
    · rintro w' ⟨c0, c1, c2, c3⟩; go_simp; rfl
    try simp only [Act.put, List.setIfInBounds_toArray, List.set_cons_zero, List.set_cons_succ]
    refine takeL (i := 2) (v := ?_) rfl (by kernel_rfl) (by kernel_rfl) (by kernel_rfl) (fun _ _ _ h => h) (Or.inl ⟨by rfl, ?_⟩) hHeld ?_
    rotate_left
    · rintro w' ⟨c0, c1, c2, c3⟩; go_simp; rfl
    try simp only [Act.put, List.setIfInBounds_toArray, List.set_cons_zero, List.set_cons_succ]
    refine takeL (i := 3) (v := ?_) rfl (by kernel_rfl) (by kernel_rfl) (by kernel_rfl) (fun _ _ _ h => h) (Or.inl ⟨by rfl, ?_⟩) hHeld ?_
    rotate_left
    · rintro w' ⟨c0, c1, c2, c3⟩; go_simp; rfl
    try simp only [Act.put, List.setIfInBounds_toArray, List.set_cons_zero, List.set_cons_succ]
    refine takeL (i := 4) (v := ?_) rfl (by kernel_rfl) (by kernel_rfl) (by kernel_rfl) (fun _ _ _ h => h) (Or.inl ⟨by rfl, ?_⟩) hHeld ?_
    rotate_left
    · rintro w' ⟨c0, c1, c2, c3⟩; go_simp; rfl
    try simp only [Act.put, List.setIfInBounds_toArray, List.set_cons_zero, List.set_cons_succ]
    refine takeL (i := 5) (v := ?_) rfl (by kernel_rfl) (by kernel_rfl) (by kernel_rfl) (fun _ _ _ h => h) (Or.inl ⟨by rfl, ?_⟩) hHeld ?_
    rotate_left
    · rintro w' ⟨c0, c1, c2, c3⟩; go_simp; rfl
    try simp only [Act.put, List.setIfInBounds_toArray, List.set_cons_zero, List.set_cons_succ]
    refine takeL (i := 6) (v := ?_) rfl (by kernel_rfl) (by kernel_rfl) (by kernel_rfl) (fun _ _ _ h => h) (Or.inl ⟨by rfl, ?_⟩) hHeld ?_
    rotate_left
    · rintro w' ⟨c0, c1, c2, c3⟩; go_simp; rfl
    try simp only [Act.put, List.setIfInBounds_toArray, List.set_cons_zero, List.set_cons_succ]
    refine takeL (i := 7) (v := ?_) rfl (by kernel_rfl) (by kernel_rfl) (by kernel_rfl) (fun _ _ _ h => h) (Or.inl ⟨by rfl, ?_⟩) hHeld ?_
    rotate_left
    · rintro w' ⟨c0, c1, c2, c3⟩; go_simp; rfl
    try simp only [Act.put, List.setIfInBounds_toArray, List.set_cons_zero, List.set_cons_succ]
    refine takeL (i := 8) (v := ?_) rfl (by kernel_rfl) (by kernel_rfl) (by kernel_rfl) (fun _ _ _ h => h) (Or.inl ⟨by rfl, ?_⟩) hHeld ?_
    rotate_left
    · rintro w' ⟨c0, c1, c2, c3⟩; go_simp; rfl
    try simp only [Act.put, List.setIfInBounds_toArray, List.set_cons_zero, List.set_cons_succ]
    refine takeL (i := 12) (v := ?_) rfl (by kernel_rfl) (by kernel_rfl) (by kernel_rfl) (fun _ _ _ h => h) (Or.inl ⟨by rfl, ?_⟩) hHeld ?_
    rotate_left
    · rintro w' ⟨c0, c1, c2, c3⟩; go_simp; rfl
    try simp only [Act.put, List.setIfInBounds_toArray, List.set_cons_zero, List.set_cons_succ]
    refine takeL (i := 14) (v := ?_) rfl (by kernel_rfl) (by kernel_rfl) (by kernel_rfl) (fun _ _ _ h => h) (Or.inl ⟨by rfl, ?_⟩) hHeld ?_
    rotate_left
    · rintro w' ⟨c0, c1, c2, c3⟩; go_simp; rfl
    try simp only [Act.put, List.setIfInBounds_toArray, List.set_cons_zero, List.set_cons_succ]
    refine wpAnyH_ready (rs := [9]) (by kernel_rfl) (by simp) ?_
    refine consL rfl (fun KK hKK => ?_) AllReadyH.nil
    refine step_callv (by rfl) 38 [.tmp 79] _ [.int .i64 tn] _ (by rfl) (by rfl) (enter38 _) (HF.out _) ?_
    rintro e w1 ⟨rfl, hb1⟩
    refine ⟨_, rfl, ?_⟩
    have HB1 : Hid (Below G w w1) := HBd.out.trans (hb1.mono (Nat.le_of_lt hsd))
    refine hKK.out _ _ (hHeld.below hsd hb1) (fun hHeld => ?_)
    clear hKK KK hb1
    try simp only [Act.put, List.setIfInBounds_toArray, List.set_cons_zero, List.set_cons_succ]
    refine takeL (i := 10) (v := ?_) rfl (by kernel_rfl) (by kernel_rfl) (by kernel_rfl) (fun _ _ _ h => h) (Or.inl ⟨by rfl, ?_⟩) hHeld ?_
    rotate_left
    · rintro w' ⟨c0, c1, c2, c3⟩; go_simp; rfl
    try simp only [Act.put, List.setIfInBounds_toArray, List.set_cons_zero, List.set_cons_succ]
    refine takeL (i := 11) (v := ?_) rfl (by kernel_rfl) (by kernel_rfl) (by kernel_rfl) (fun _ _ _ h => h) (Or.inl ⟨by rfl, ?_⟩) hHeld ?_
    rotate_left
    · rintro w' ⟨c0, c1, c2, c3⟩; go_simp; rfl
    try simp only [Act.put, List.setIfInBounds_toArray, List.set_cons_zero, List.set_cons_succ]
    refine takeL (i := 13) (v := ?_) rfl (by kernel_rfl) (by kernel_rfl) (by kernel_rfl) (fun _ _ _ h => h) (Or.inl ⟨by rfl, ?_⟩) hHeld ?_
    rotate_left
    · rintro w' ⟨c0, c1, c2, c3⟩; go_simp; rfl
    try simp only [Act.put, List.setIfInBounds_toArray, List.set_cons_zero, List.set_cons_succ]
    refine takeL (i := 15) (v := ?_) rfl (by kernel_rfl) (by kernel_rfl) (by kernel_rfl) (fun _ _ _ h => h) (Or.inl ⟨by rfl, ?_⟩) hHeld ?_
    rotate_left
    · rintro w' ⟨c0, c1, c2, c3⟩; go_simp; rfl
    try simp only [Act.put, List.setIfInBounds_toArray, List.set_cons_zero, List.set_cons_succ]
    refine takeL (i := 16) (v := ?_) rfl (by kernel_rfl) (by kernel_rfl) (by kernel_rfl) (fun _ _ _ h => h) (Or.inl ⟨by rfl, ?_⟩) hHeld ?_
    rotate_left
    · rintro w' ⟨c0, c1, c2, c3⟩; go_simp; rfl
    try simp only [Act.put, List.setIfInBounds_toArray, List.set_cons_zero, List.set_cons_succ]
    refine takeL (i := 17) (v := ?_) rfl (by kernel_rfl) (by kernel_rfl) (by kernel_rfl) (fun _ _ _ h => h) (Or.inl ⟨by rfl, ?_⟩) hHeld ?_
    rotate_left
    · rintro w' ⟨c0, c1, c2, c3⟩; go_simp; rfl
    try simp only [Act.put, List.setIfInBounds_toArray, List.set_cons_zero, List.set_cons_succ]
    refine wpAnyH_done (by kernel_rfl) ?_ _
    go_wp2
    go_ret2
    exact PE.out _ HB1.out
end Go.Proofs.YtbpdielmdhhdfaaGreatDoor
/- The document's side of chapter 3: a person, read. -/
namespace Go.Proofs.YtbpdielmdhhdfaaGreatDoor
open Go.RowKit
set_option linter.unusedVariables false
set_option linter.unusedSimpArgs false
/-- While a person is read. -/
structure PB (G : Nat) (A B : ByteArray) (T Z : Int) (w W : World) : Prop where
  below : Below G w W
  box : W.heap[G + 1]? = some (.cells #[.string A, .string B, .int .i64 T, .int .i64 Z] 64 (0, 0))
  res : W.heap[G]? = some (.cells #[.string ⟨#[]⟩, .string ⟨#[]⟩, .int .i64 0, .int .i64 0] 64 (0, 0))
theorem PB.step {G : Nat} {A B A' B' : ByteArray} {T Z T' Z' : Int} {w W : World} (h : PB G A B T Z w W) (i : Nat) (v : Value) (he : (#[.string A, .string B, .int .i64 T, .int .i64 Z] : Array Value).setIfInBounds i v = #[.string A', .string B', .int .i64 T', .int .i64 Z']) : PB G A' B' T' Z' w (W.setCell ⟨G + 1, i, none⟩ v) :=
  ⟨h.below.setCell (by show G ≤ G + 1; omega) _, by rw [heap_setCell_same W (G + 1) i _ 64 v h.box, he], (heap_setCell_other W ⟨G + 1, i, none⟩ G v (by show G ≠ G + 1; omega)).trans h.res⟩
theorem PB.grow {G : Nat} {A B : ByteArray} {T Z : Int} {w W W' : World} (h : PB G A B T Z w W) (hb : Below W.heap.size W W') : PB G A B T Z w W' :=
  ⟨h.below.trans (hb.mono (Nat.le_of_lt (lt_of_some h.res))), (hb.block _ (lt_of_some h.box)).trans h.box, (hb.block _ (lt_of_some h.res)).trans h.res⟩
theorem PB.cells {G : Nat} {A B : ByteArray} {T Z : Int} {w W : World} (h : PB G A B T Z w W) : W.cell? ⟨G + 1, 0, none⟩ = some (.string A) ∧ W.cell? ⟨G + 1, 1, none⟩ = some (.string B) ∧ W.cell? ⟨G + 1, 2, none⟩ = some (.int .i64 T) ∧ W.cell? ⟨G + 1, 3, none⟩ = some (.int .i64 Z) ∧ ∀ i, W.frozen? ⟨G + 1, i, none⟩ = false :=
  ⟨(cell_of_row W (G + 1) 0 _ _ _ h.box).trans rfl, (cell_of_row W (G + 1) 1 _ _ _ h.box).trans rfl, (cell_of_row W (G + 1) 2 _ _ _ h.box).trans rfl, (cell_of_row W (G + 1) 3 _ _ _ h.box).trans rfl, fun i => frozen_of_row W (G + 1) i _ _ h.box⟩
theorem Tryz.results109 : Tryz.f109.results = #[.cell 2 64, .tmp 3] := by kernel_rfl
theorem Tryz.size64 : (Tryz.prog.info? 64).map (·.size) = some 4 := by kernel_rfl
/-- What 'readPerson' gives. -/
def PostRP (s : List UInt8) (e : Ending) : Prop := ∃ p b, e = .returned (.tuple #[.agg (perV p), .bool b]) ∧ (b = true → okP p ∧ perB p = s) ∧ ∀ q, okP q → perB q = s → b = true
set_option maxRecDepth 20000 in
set_option maxHeartbeats 2000000 in
theorem readPerson_any (s : List UInt8) (hs : s.length ≤ 1000000) (w : World) : Calls Tryz.prog 109 #[.string ⟨s.toArray⟩] w fun e w' => Below w.heap.size w w' ∧ PostRP s e := by
  obtain ⟨S, HS⟩ : ∃ S : ByteArray, Hid (⟨s.toArray⟩ = S) := ⟨_, rfl⟩
  obtain ⟨n, HN⟩ : ∃ n, Hid (s.length = n) := ⟨_, rfl⟩
  have hsz : S.size = n := by rw [← HS.out, txt_len]; exact HN.out
  have hn : n ≤ 1000000 := by rw [← HN.out]; exact hs
  obtain ⟨G, HG⟩ : ∃ G, Hid (w.heap.size = G) := ⟨_, rfl⟩
  obtain ⟨w1, HW1⟩ : ∃ w1, Hid ((w.alloc (.cells #[.string ⟨#[]⟩, .string ⟨#[]⟩, .int .i64 0, .int .i64 0] 64)).alloc (.cells #[.string ⟨#[]⟩, .string ⟨#[]⟩, .int .i64 0, .int .i64 0] 64) = w1) := ⟨_, rfl⟩
  have PB1 : Hid (PB G ⟨#[]⟩ ⟨#[]⟩ 0 0 w w1) := hid (by
    rw [← HW1.out, ← HG.out]
    refine ⟨((Below.refl _ w).alloc (Nat.le_refl _) _).alloc (by simp) _, ?_, ?_⟩
    · have := heap_alloc_new (w.alloc (.cells #[.string ⟨#[]⟩, .string ⟨#[]⟩, .int .i64 0, .int .i64 0] 64)) (.cells #[.string ⟨#[]⟩, .string ⟨#[]⟩, .int .i64 0, .int .i64 0] 64)
      simpa using this
    · have h1 := heap_alloc_new w (.cells #[.string ⟨#[]⟩, .string ⟨#[]⟩, .int .i64 0, .int .i64 0] 64)
      have h2 := ((Below.refl (w.alloc (.cells #[.string ⟨#[]⟩, .string ⟨#[]⟩, .int .i64 0, .int .i64 0] 64)).heap.size (w.alloc (.cells #[.string ⟨#[]⟩, .string ⟨#[]⟩, .int .i64 0, .int .i64 0] 64))).alloc (Nat.le_refl _) (.cells #[.string ⟨#[]⟩, .string ⟨#[]⟩, .int .i64 0, .int .i64 0] 64)).block w.heap.size (by simp)
      exact h2.trans h1)
  have NOP : Hid ((∀ q, okP q → perB q ≠ s) → PostRP s (.returned (.tuple #[.agg #[.string ⟨#[]⟩, .string ⟨#[]⟩, .int .i64 0, .int .i64 0], .bool false]))) := fun h => ⟨⟨[], [], 0, 0⟩, false, rfl, (fun h => by cases h), fun q h1 h2 => absurd h2 (h q h1)⟩
  rw [HS.out]
  clear hs
  go_enter Tryz.func109, Tryz.ntmps109
  go_wp2
  rw [HG.out, HW1.out]
  go_loopg [5] n (fun g i wr => ∃ o : Nat, o ≤ n ∧ g = n - o ∧ i = .int .i64 o ∧ Hid (∀ x ∈ s.take o, x ≠ 60) ∧ Hid (wr = w1))
  case atStart => exact ⟨0, by omega, rfl, rfl, hid (by simp), hid rfl⟩
  case round =>
    obtain ⟨o, ho, hk, rfl, HT, HWR⟩ := hrel
    have h2 : w1 = wr := HWR.out.symm
    subst h2
    clear HWR
    by_cases hlt : o < n
    · have hlti : (o : Int) < (n : Int) := by omega
      obtain ⟨x, hx⟩ : ∃ x, s[o]? = some x := ⟨_, List.getElem?_eq_getElem (by rw [HN.out]; exact hlt)⟩
      obtain ⟨c, HC⟩ : ∃ c, Hid ((x.toNat : Int) = c) := ⟨_, rfl⟩
      have HX : Hid (s[o]? = some x) := hx
      have hix : ∀ w1 : World, (Instr.index 9 (.string S) (.int .i64 o)).run Tryz.prog w1 = .ok (.int .u8 c) w1 := fun w1 => by rw [← HS.out, ← HC.out]; exact index_txt s o w1 x HX.out
      clear hx
      by_cases hc : c = 60
      · have HO2 : Hid (s[o]? = some 60) := hid (by rw [HX.out, (u8_ne (n := 60) (by decide)).1 (HC.out.trans hc)]; rfl)
        clear HC
        subst hc
        go_wp2
        go_loopg [6] (n - o) (fun g i wr => ∃ sh : Nat, o ≤ sh ∧ sh ≤ n ∧ g = n - sh ∧ i = .int .i64 sh ∧ Hid (∀ x ∈ (s.take sh).drop o, x ≠ 62) ∧ Hid (wr = w1))
        case atStart => exact ⟨o, by omega, by omega, rfl, rfl, hid (by simp), hid rfl⟩
        case round =>
          obtain ⟨sh, hsh1, hsh, hk2, rfl, HT2, HWR⟩ := hrel
          have h2 : w1 = wr := HWR.out.symm
          subst h2
          clear HWR
          by_cases hlt2 : sh < n
          · have hlti2 : (sh : Int) < (n : Int) := by omega
            obtain ⟨y, hy⟩ : ∃ x, s[sh]? = some x := ⟨_, List.getElem?_eq_getElem (by rw [HN.out]; exact hlt2)⟩
            obtain ⟨d, HD⟩ : ∃ c, Hid ((y.toNat : Int) = c) := ⟨_, rfl⟩
            have HY : Hid (s[sh]? = some y) := hy
            have hiy : ∀ w1 : World, (Instr.index 9 (.string S) (.int .i64 sh)).run Tryz.prog w1 = .ok (.int .u8 d) w1 := fun w1 => by rw [← HS.out, ← HD.out]; exact index_txt s sh w1 y HY.out
            clear hy
            by_cases hd : d = 62
            · have HS2 : Hid (s[sh]? = some 62) := hid (by rw [HY.out, (u8_ne (n := 62) (by decide)).1 (HD.out.trans hd)]; rfl)
              clear HD
              subst hd
              have hge2 : ¬ (n : Int) ≤ (sh : Int) := by omega
              have HPT : Hid (∀ q, okP q → perB q = s → o = q.name.length + 1 ∧ sh = q.name.length + 2 + q.mail.length ∧ s.length = sh + 8 + (Lib.decDigits q.time.toNat).length ∧ s.take (o - 1) = q.name ∧ (s.drop (o + 1)).take (sh - (o + 1)) = q.mail ∧
                  (s.drop (sh + 2)).take (s.length - 6 - (sh + 2)) = Lib.decDigits q.time.toNat ∧ (s.drop (s.length - 4)).take 2 = two (zh q) ∧ s.drop (s.length - 2) = two (zm q) ∧ s[s.length - 5]? = some (zs q)) := fun q h1 h2 => per_parts q h1 s h2 o sh HT.out (.inr HO2.out) hsh1 HT2.out (.inr HS2.out)
              by_cases ho1 : (o : Int) < 1
              · have HNO : Hid (∀ q, okP q → perB q ≠ s) := fun q h1 h2 => by have := (HPT.out q h1 h2).1; omega
                obtain ⟨c0, c1, c2, c3, cf⟩ := PB1.out.cells
                have E1 : Hid (w1.there G 0 (#[.string ⟨#[]⟩, .string ⟨#[]⟩, .int .i64 0, .int .i64 0] : Array Value).size) := hid (there_off PB1.out.res 0 (Nat.le_refl _))
                have E2 : Hid ((Tryz.prog.info? 64).map (·.size) = some (#[.string ⟨#[]⟩, .string ⟨#[]⟩, .int .i64 0, .int .i64 0] : Array Value).size) := Tryz.size64
                have E3 : Hid ((#[.string ⟨#[]⟩, .string ⟨#[]⟩, .int .i64 0, .int .i64 0] : Array Value).all (·.oneCell') = true) := hid (all_oneCell_toArray (fun v hv => by simp only [List.mem_cons, List.not_mem_nil, or_false] at hv; rcases hv with rfl | rfl | rfl | rfl <;> rfl))
                go_wp2_with (refine wpList_store_mid rfl 64 _ _ rfl G 0 #[.string ⟨#[]⟩, .string ⟨#[]⟩, .int .i64 0, .int .i64 0] rfl rfl E1.out E2.out E3.out ?_)
                refine bodyPost_ret (v := .tuple #[.agg #[.string ⟨#[]⟩, .string ⟨#[]⟩, .int .i64 0, .int .i64 0], .bool false]) (results_mid2 Tryz.results109 _ _ G (#[.string ⟨#[]⟩, .string ⟨#[]⟩, .int .i64 0, .int .i64 0] : Array Value).toList _ rfl (World.rangeAt_setCells_same w1 G 0 _ E1.out) Tryz.underlying64 rfl Tryz.size64) rfl ⟨?_, ?_⟩
                · rw [HG.out]; exact below_setCells (Nat.le_refl _) _ _ _ _ PB1.out.below
                · exact NOP.out HNO.out
              by_cases h9 : (n : Int) < (sh : Int) + 9
              · have HNO : Hid (∀ q, okP q → perB q ≠ s) := fun q h1 h2 => by
                  have h3 := (HPT.out q h1 h2).2.2.1
                  have h4 := (dig_val q.time.toNat).2.2.1
                  rw [HN.out] at h3
                  omega
                obtain ⟨c0, c1, c2, c3, cf⟩ := PB1.out.cells
                have E1 : Hid (w1.there G 0 (#[.string ⟨#[]⟩, .string ⟨#[]⟩, .int .i64 0, .int .i64 0] : Array Value).size) := hid (there_off PB1.out.res 0 (Nat.le_refl _))
                have E2 : Hid ((Tryz.prog.info? 64).map (·.size) = some (#[.string ⟨#[]⟩, .string ⟨#[]⟩, .int .i64 0, .int .i64 0] : Array Value).size) := Tryz.size64
                have E3 : Hid ((#[.string ⟨#[]⟩, .string ⟨#[]⟩, .int .i64 0, .int .i64 0] : Array Value).all (·.oneCell') = true) := hid (all_oneCell_toArray (fun v hv => by simp only [List.mem_cons, List.not_mem_nil, or_false] at hv; rcases hv with rfl | rfl | rfl | rfl <;> rfl))
                go_wp2_with (refine wpList_store_mid rfl 64 _ _ rfl G 0 #[.string ⟨#[]⟩, .string ⟨#[]⟩, .int .i64 0, .int .i64 0] rfl rfl E1.out E2.out E3.out ?_)
                refine bodyPost_ret (v := .tuple #[.agg #[.string ⟨#[]⟩, .string ⟨#[]⟩, .int .i64 0, .int .i64 0], .bool false]) (results_mid2 Tryz.results109 _ _ G (#[.string ⟨#[]⟩, .string ⟨#[]⟩, .int .i64 0, .int .i64 0] : Array Value).toList _ rfl (World.rangeAt_setCells_same w1 G 0 _ E1.out) Tryz.underlying64 rfl Tryz.size64) rfl ⟨?_, ?_⟩
                · rw [HG.out]; exact below_setCells (Nat.le_refl _) _ _ _ _ PB1.out.below
                · exact NOP.out HNO.out
              have hso : o + 1 ≤ sh := by
                rcases Nat.lt_or_ge o sh with h | h
                · exact h
                · have e2 : sh = o := by omega
                  have h3 := HS2.out
                  rw [e2, HO2.out] at h3
                  simp at h3
              have h9n : sh + 9 ≤ n := by omega
              have ho1n : 1 ≤ o := by omega
              obtain ⟨a1, Q1⟩ : ∃ l, Hid (s.take (o - 1) = l) := ⟨_, rfl⟩
              obtain ⟨A1, R1⟩ : ∃ S : ByteArray, Hid (⟨a1.toArray⟩ = S) := ⟨_, rfl⟩
              obtain ⟨a2, Q2⟩ : ∃ l, Hid ((s.drop (o + 1)).take (sh - (o + 1)) = l) := ⟨_, rfl⟩
              obtain ⟨A2, R2⟩ : ∃ S : ByteArray, Hid (⟨a2.toArray⟩ = S) := ⟨_, rfl⟩
              obtain ⟨a3, Q3⟩ : ∃ l, Hid ((s.drop (sh + 2)).take (n - 6 - (sh + 2)) = l) := ⟨_, rfl⟩
              obtain ⟨A3, R3⟩ : ∃ S : ByteArray, Hid (⟨a3.toArray⟩ = S) := ⟨_, rfl⟩
              obtain ⟨a4, Q4⟩ : ∃ l, Hid ((s.drop (n - 4)).take 2 = l) := ⟨_, rfl⟩
              obtain ⟨A4, R4⟩ : ∃ S : ByteArray, Hid (⟨a4.toArray⟩ = S) := ⟨_, rfl⟩
              obtain ⟨a5, Q5⟩ : ∃ l, Hid (s.drop (n - 2) = l) := ⟨_, rfl⟩
              obtain ⟨A5, R5⟩ : ∃ S : ByteArray, Hid (⟨a5.toArray⟩ = S) := ⟨_, rfl⟩
              have q4 : Hid (a4.length = 2) := hid (by rw [← Q4.out, List.length_take, List.length_drop, HN.out]; omega)
              have q5 : Hid (a5.length = 2) := hid (by rw [← Q5.out, List.length_drop, HN.out]; omega)
              have z4 : A4.size = 2 := by rw [← R4.out, txt_len]; exact q4.out
              have z5 : A5.size = 2 := by rw [← R5.out, txt_len]; exact q5.out
              have l49 : (⟨#[49]⟩ : ByteArray).size = 1 := rfl
              obtain ⟨B4, HB4⟩ : ∃ A : ByteArray, ⟨#[49]⟩ ++ A4 = A := ⟨_, rfl⟩
              obtain ⟨B5, HB5⟩ : ∃ A : ByteArray, ⟨#[49]⟩ ++ A5 = A := ⟨_, rfl⟩
              have T4 : Hid (⟨(49 :: a4).toArray⟩ = B4) := hid (by rw [← HB4, ← R4.out, show (⟨#[49]⟩ : ByteArray) = ⟨[49].toArray⟩ from rfl, str_add]; rfl)
              have T5 : Hid (⟨(49 :: a5).toArray⟩ = B5) := hid (by rw [← HB5, ← R5.out, show (⟨#[49]⟩ : ByteArray) = ⟨[49].toArray⟩ from rfl, str_add]; rfl)
              have hs0 : ∀ W, (Instr.slice 9 (.string S) none (some (.int .i64 ((o : Int) - 1))) none).run Tryz.prog W = .ok (.string A1) W := fun W => by
                rw [← HS.out, ← R1.out, ← Q1.out, show ((o : Int) - 1) = ((o - 1 : Nat) : Int) from by omega]; exact slice_to s (o - 1) (by rw [HN.out]; omega) W
              have hs1 : ∀ W, (Instr.slice 9 (.string S) (some (.int .i64 ((o : Int) + 1))) (some (.int .i64 sh)) none).run Tryz.prog W = .ok (.string A2) W := fun W => by
                rw [← HS.out, ← R2.out, ← Q2.out]; exact slice_mid s (o + 1) sh hso (by rw [HN.out]; omega) W
              have hs2 : ∀ W, (Instr.slice 9 (.string S) (some (.int .i64 ((sh : Int) + 2))) (some (.int .i64 ((n : Int) - 6))) none).run Tryz.prog W = .ok (.string A3) W := fun W => by
                rw [← HS.out, ← R3.out, ← Q3.out, show ((n : Int) - 6) = ((n - 6 : Nat) : Int) from by omega]; exact slice_mid s (sh + 2) (n - 6) (by omega) (by rw [HN.out]; omega) W
              have hs3 : ∀ W, (Instr.slice 9 (.string S) (some (.int .i64 ((n : Int) - 4))) (some (.int .i64 ((n : Int) - 2))) none).run Tryz.prog W = .ok (.string A4) W := fun W => by
                rw [← HS.out, ← R4.out, ← Q4.out, show ((n : Int) - 4) = ((n - 4 : Nat) : Int) from by omega, show ((n : Int) - 2) = ((n - 2 : Nat) : Int) from by omega]
                have h := slice_mid s (n - 4) (n - 2) (by omega) (by rw [HN.out]; omega) W
                rw [show n - 2 - (n - 4) = 2 from by omega] at h
                exact h
              have hs4 : ∀ W, (Instr.slice 9 (.string S) (some (.int .i64 ((n : Int) - 2))) none none).run Tryz.prog W = .ok (.string A5) W := fun W => by
                rw [← HS.out, ← R5.out, ← Q5.out, show ((n : Int) - 2) = ((n - 2 : Nat) : Int) from by omega]; exact slice_from s (n - 2) (by rw [HN.out]; omega) W
              have N3 : Hid (∀ W, Calls Tryz.prog 143 #[.string A3] W fun e w' => w' = W ∧ PostN a3 e) := fun W => by rw [← R3.out]; exact numberR_any a3 W
              have N4 : Hid (∀ W, Calls Tryz.prog 143 #[.string B4] W fun e w' => w' = W ∧ PostN (49 :: a4) e) := fun W => by rw [← T4.out]; exact numberR_any _ W
              have N5 : Hid (∀ W, Calls Tryz.prog 143 #[.string B5] W fun e w' => w' = W ∧ PostN (49 :: a5) e) := fun W => by rw [← T5.out]; exact numberR_any _ W
              obtain ⟨y5, hy5⟩ : ∃ x, s[n - 5]? = some x := ⟨_, List.getElem?_eq_getElem (by rw [HN.out]; omega)⟩
              obtain ⟨d5, HD5⟩ : ∃ c, Hid ((y5.toNat : Int) = c) := ⟨_, rfl⟩
              have HY5 : Hid (s[n - 5]? = some y5) := hy5
              have hi5 : ∀ w1 : World, (Instr.index 9 (.string S) (.int .i64 ((n : Int) - 5))).run Tryz.prog w1 = .ok (.int .u8 d5) w1 := fun w1 => by rw [← HS.out, ← HD5.out, show ((n : Int) - 5) = ((n - 5 : Nat) : Int) from by omega]; exact index_txt s (n - 5) w1 y5 HY5.out
              clear hy5
              obtain ⟨c0, c1, c2, c3, cf⟩ := PB1.out.cells
              go_wp2_with fail
              have PB2 : Hid (PB G A1 A2 0 0 w ((w1.setCell ⟨G + 1, 0, none⟩ (.string A1)).setCell ⟨G + 1, 1, none⟩ (.string A2))) := (PB1.out.step (A' := A1) (B' := ⟨#[]⟩) (T' := 0) (Z' := 0) 0 _ rfl).step 1 _ rfl
              generalize (w1.setCell ⟨G + 1, 0, none⟩ (.string A1)).setCell ⟨G + 1, 1, none⟩ (.string A2) = w2 at PB2 ⊢
              clear c0 c1 c2 c3 cf hs0 hs1 hs2
              refine (N3.out w2).mono ?_
              rintro ev w2' ⟨hw2, v, rfl, hv⟩
              have hw2' := hw2.symm
              subst hw2'
              clear hw2
              have HV : Hid (NuP a3 v) := hv
              clear hv
              obtain ⟨c0, c1, c2, c3, cf⟩ := PB2.out.cells
              go_wp2_with fail
              have PB3 : Hid (PB G A1 A2 v 0 w (w2.setCell ⟨G + 1, 2, none⟩ (.int .i64 v))) := PB2.out.step 2 _ rfl
              generalize w2.setCell ⟨G + 1, 2, none⟩ (.int .i64 v) = w3 at PB3 ⊢
              clear c0 c1 c2 c3 cf hs3
              refine (N4.out w3).mono ?_
              rintro ev w3' ⟨hw3, h, rfl, hh⟩
              have hw3' := hw3.symm
              subst hw3'
              clear hw3
              have HH : Hid (NuP (49 :: a4) h) := hh
              clear hh
              go_wp2_with fail
              refine (N5.out w3).mono ?_
              rintro ev w3' ⟨hw3, m, rfl, hm⟩
              have hw3' := hw3.symm
              subst hw3'
              clear hw3 hs4
              have HM : Hid (NuP (49 :: a5) m) := hm
              clear hm
              obtain ⟨c0, c1, c2, c3, cf⟩ := PB3.out.cells
              have HQV : Hid (∀ q, okP q → perB q = s → a1 = q.name ∧ a2 = q.mail ∧ v = (q.time.toNat : Int) ∧ h = 100 + (zh q : Int) ∧ m = 100 + (zm q : Int) ∧ y5 = zs q) := fun q g1 g2 => by
                obtain ⟨-, -, -, t1, t2, t3, t4, t5, t6⟩ := HPT.out q g1 g2
                rw [HN.out] at t3 t4 t5 t6
                rw [Q1.out] at t1
                rw [Q2.out] at t2
                rw [Q3.out] at t3
                rw [Q4.out] at t4
                rw [Q5.out] at t5
                have u1 := HV.out
                have u2 := HH.out
                have u3 := HM.out
                rw [t3] at u1
                rw [t4] at u2
                rw [t5] at u3
                have b1 := g1.2.2.1
                have b2 := g1.2.2.2
                have k1 : zh q < 100 := by unfold zh; omega
                have k2 : zm q < 100 := by unfold zm; omega
                refine ⟨t1, t2, num_dig (by omega) u1, num_two k1 u2, num_two k2 u3, ?_⟩
                rw [HY5.out] at t6
                exact Option.some.inj t6
              have HPV : Hid (∀ z, perV ⟨a1, a2, v, z⟩ = #[.string A1, .string A2, .int .i64 v, .int .i64 z]) := fun z => by unfold perV; rw [← R1.out, ← R2.out]
              have NO2 : Hid ((∀ q, okP q → perB q ≠ s) → PostRP s (.returned (.tuple #[.agg #[.string A1, .string A2, .int .i64 v, .int .i64 0], .bool false]))) := fun h => ⟨⟨a1, a2, v, 0⟩, false, by rw [HPV.out], (fun h => by cases h), fun q h1 h2 => absurd h2 (h q h1)⟩
              by_cases hh0 : h < 0
              · have HNO : Hid (∀ q, okP q → perB q ≠ s) := fun q g1 g2 => by have := (HQV.out q g1 g2).2.2.2.1; omega
                have E1 : Hid (w3.there G 0 (#[.string A1, .string A2, .int .i64 v, .int .i64 0] : Array Value).size) := hid (there_off PB3.out.res 0 (Nat.le_refl _))
                have E2 : Hid ((Tryz.prog.info? 64).map (·.size) = some (#[.string A1, .string A2, .int .i64 v, .int .i64 0] : Array Value).size) := Tryz.size64
                have E3 : Hid ((#[.string A1, .string A2, .int .i64 v, .int .i64 0] : Array Value).all (·.oneCell') = true) := hid (all_oneCell_toArray (fun v hv => by simp only [List.mem_cons, List.not_mem_nil, or_false] at hv; rcases hv with rfl | rfl | rfl | rfl <;> rfl))
                go_wp2_with (refine wpList_store_mid rfl 64 _ _ rfl G 0 #[.string A1, .string A2, .int .i64 v, .int .i64 0] rfl rfl E1.out E2.out E3.out ?_)
                refine bodyPost_ret (v := .tuple #[.agg #[.string A1, .string A2, .int .i64 v, .int .i64 0], .bool false]) (results_mid2 Tryz.results109 _ _ G (#[.string A1, .string A2, .int .i64 v, .int .i64 0] : Array Value).toList _ rfl (World.rangeAt_setCells_same w3 G 0 _ E1.out) Tryz.underlying64 rfl Tryz.size64) rfl ⟨?_, ?_⟩
                · rw [HG.out]; exact below_setCells (Nat.le_refl _) _ _ _ _ PB3.out.below
                · exact NO2.out HNO.out
              by_cases hm0 : m < 0
              · have HNO : Hid (∀ q, okP q → perB q ≠ s) := fun q g1 g2 => by have := (HQV.out q g1 g2).2.2.2.2.1; omega
                have E1 : Hid (w3.there G 0 (#[.string A1, .string A2, .int .i64 v, .int .i64 0] : Array Value).size) := hid (there_off PB3.out.res 0 (Nat.le_refl _))
                have E2 : Hid ((Tryz.prog.info? 64).map (·.size) = some (#[.string A1, .string A2, .int .i64 v, .int .i64 0] : Array Value).size) := Tryz.size64
                have E3 : Hid ((#[.string A1, .string A2, .int .i64 v, .int .i64 0] : Array Value).all (·.oneCell') = true) := hid (all_oneCell_toArray (fun v hv => by simp only [List.mem_cons, List.not_mem_nil, or_false] at hv; rcases hv with rfl | rfl | rfl | rfl <;> rfl))
                go_wp2_with (refine wpList_store_mid rfl 64 _ _ rfl G 0 #[.string A1, .string A2, .int .i64 v, .int .i64 0] rfl rfl E1.out E2.out E3.out ?_)
                refine bodyPost_ret (v := .tuple #[.agg #[.string A1, .string A2, .int .i64 v, .int .i64 0], .bool false]) (results_mid2 Tryz.results109 _ _ G (#[.string A1, .string A2, .int .i64 v, .int .i64 0] : Array Value).toList _ rfl (World.rangeAt_setCells_same w3 G 0 _ E1.out) Tryz.underlying64 rfl Tryz.size64) rfl ⟨?_, ?_⟩
                · rw [HG.out]; exact below_setCells (Nat.le_refl _) _ _ _ _ PB3.out.below
                · exact NO2.out HNO.out
              have hb1 : 0 ≤ h ∧ h < 1000 := by
                rcases num_three (by simp [q4.out]) HH.out with h | h
                · omega
                · exact h
              have hb2 : 0 ≤ m ∧ m < 1000 := by
                rcases num_three (by simp [q5.out]) HM.out with h | h
                · omega
                · exact h
              obtain ⟨hb1, hb1'⟩ := hb1
              obtain ⟨hb2, hb2'⟩ := hb2
              obtain ⟨z, HZ⟩ : ∃ z, Hid (z = (h - 100) * 60 + m - 100) := ⟨_, rfl⟩
              have hzz : (h - 100) * 60 + m - 100 = z := HZ.out.symm
              have hz1 : -10000 ≤ z := by rw [HZ.out]; omega
              have hz2 : z ≤ 100000 := by rw [HZ.out]; omega
              by_cases h45 : d5 = 45
              · have HSG : Hid (y5 = 45) := hid ((u8_ne (n := 45) (by decide)).1 (HD5.out.trans h45))
                clear HD5
                subst h45
                have HPQ : Hid (∀ q, okP q → perB q = s → (⟨a1, a2, v, (-z)⟩ : Per) = q) := fun q g1 g2 => by
                  obtain ⟨t1, t2, t3, t4, t5, t6⟩ := HQV.out q g1 g2
                  refine per_back q g1 z (by rw [HZ.out, t4, t5]) _ t1 t2 t3 (fun g => ?_) (fun g => ?_)
                  · rfl
                  · exact absurd (t6.symm.trans HSG.out) g
                have CX : Hid (∀ W, Calls Tryz.prog 58 #[.agg #[.string A1, .string A2, .int .i64 v, .int .i64 (-z)]] W (PostX ⟨a1, a2, v, (-z)⟩ W)) := fun W => by rw [← HPV.out]; exact text_any _ W
                go_wp2_with fail
                have PB4 : Hid (PB G A1 A2 v (-z) w ((w3.setCell ⟨G + 1, 3, none⟩ (.int .i64 z)).setCell ⟨G + 1, 3, none⟩ (.int .i64 (-z)))) := (PB3.out.step (A' := A1) (B' := A2) (T' := v) (Z' := z) 3 _ rfl).step 3 _ rfl
                generalize (w3.setCell ⟨G + 1, 3, none⟩ (.int .i64 z)).setCell ⟨G + 1, 3, none⟩ (.int .i64 (-z)) = w4 at PB4 ⊢
                clear c0 c1 c2 c3 cf
                refine (CX.out w4).mono ?_
                rintro ev w5 ⟨hb5, hor⟩
                have PB5 : Hid (PB G A1 A2 v (-z) w w5) := PB4.out.grow hb5
                clear hb5
                obtain ⟨c0, c1, c2, c3, cf⟩ := PB5.out.cells
                rcases hor with ⟨hok, rfl⟩ | ⟨hno, rfl⟩
                · have HOK : Hid (okP ⟨a1, a2, v, (-z)⟩) := hok
                  clear hok
                  obtain ⟨TX, HTX⟩ : ∃ S : ByteArray, Hid (⟨(perB ⟨a1, a2, v, (-z)⟩).toArray⟩ = S) := ⟨_, rfl⟩
                  rw [HTX.out]
                  obtain ⟨bq, heq⟩ : ∃ b : Bool, (TX.toList == S.toList) = b := ⟨_, rfl⟩
                  have HEI : Hid (bq = true ↔ perB ⟨a1, a2, v, (-z)⟩ = s) := hid (by
                    rw [← heq, ← HTX.out, ← HS.out, Lib.toList_data, Lib.toList_data]
                    simp)
                  have FIN : Hid (PostRP s (.returned (.tuple #[.agg #[.string A1, .string A2, .int .i64 v, .int .i64 (-z)], .bool bq]))) := ⟨⟨a1, a2, v, (-z)⟩, bq, by rw [HPV.out], fun h => ⟨HOK.out, HEI.out.1 h⟩, fun q g1 g2 => HEI.out.2 (by rw [HPQ.out q g1 g2]; exact g2)⟩
                  clear HEI
                  have E1 : Hid (w5.there G 0 (#[.string A1, .string A2, .int .i64 v, .int .i64 (-z)] : Array Value).size) := hid (there_off PB5.out.res 0 (Nat.le_refl _))
                  have E2 : Hid ((Tryz.prog.info? 64).map (·.size) = some (#[.string A1, .string A2, .int .i64 v, .int .i64 (-z)] : Array Value).size) := Tryz.size64
                  have E3 : Hid ((#[.string A1, .string A2, .int .i64 v, .int .i64 (-z)] : Array Value).all (·.oneCell') = true) := hid (all_oneCell_toArray (fun v hv => by simp only [List.mem_cons, List.not_mem_nil, or_false] at hv; rcases hv with rfl | rfl | rfl | rfl <;> rfl))
                  go_wp2_with (refine wpList_store_mid rfl 64 _ _ rfl G 0 #[.string A1, .string A2, .int .i64 v, .int .i64 (-z)] rfl rfl E1.out E2.out E3.out ?_)
                  refine bodyPost_ret (v := .tuple #[.agg #[.string A1, .string A2, .int .i64 v, .int .i64 (-z)], .bool bq]) (results_mid2 Tryz.results109 _ _ G (#[.string A1, .string A2, .int .i64 v, .int .i64 (-z)] : Array Value).toList _ rfl (World.rangeAt_setCells_same w5 G 0 _ E1.out) Tryz.underlying64 rfl Tryz.size64) rfl ⟨?_, ?_⟩
                  · rw [HG.out]; exact below_setCells (Nat.le_refl _) _ _ _ _ PB5.out.below
                  · exact FIN.out
                · have HNK : Hid (¬ okP ⟨a1, a2, v, (-z)⟩) := hno
                  clear hno
                  have FIN : Hid (PostRP s (.returned (.tuple #[.agg #[.string A1, .string A2, .int .i64 v, .int .i64 (-z)], .bool false]))) := ⟨⟨a1, a2, v, (-z)⟩, false, by rw [HPV.out], (fun h => by cases h), fun q g1 g2 => absurd (by rw [HPQ.out q g1 g2]; exact g1) HNK.out⟩
                  have E1 : Hid (w5.there G 0 (#[.string A1, .string A2, .int .i64 v, .int .i64 (-z)] : Array Value).size) := hid (there_off PB5.out.res 0 (Nat.le_refl _))
                  have E2 : Hid ((Tryz.prog.info? 64).map (·.size) = some (#[.string A1, .string A2, .int .i64 v, .int .i64 (-z)] : Array Value).size) := Tryz.size64
                  have E3 : Hid ((#[.string A1, .string A2, .int .i64 v, .int .i64 (-z)] : Array Value).all (·.oneCell') = true) := hid (all_oneCell_toArray (fun v hv => by simp only [List.mem_cons, List.not_mem_nil, or_false] at hv; rcases hv with rfl | rfl | rfl | rfl <;> rfl))
                  go_wp2_with (refine wpList_store_mid rfl 64 _ _ rfl G 0 #[.string A1, .string A2, .int .i64 v, .int .i64 (-z)] rfl rfl E1.out E2.out E3.out ?_)
                  refine bodyPost_ret (v := .tuple #[.agg #[.string A1, .string A2, .int .i64 v, .int .i64 (-z)], .bool false]) (results_mid2 Tryz.results109 _ _ G (#[.string A1, .string A2, .int .i64 v, .int .i64 (-z)] : Array Value).toList _ rfl (World.rangeAt_setCells_same w5 G 0 _ E1.out) Tryz.underlying64 rfl Tryz.size64) rfl ⟨?_, ?_⟩
                  · rw [HG.out]; exact below_setCells (Nat.le_refl _) _ _ _ _ PB5.out.below
                  · exact FIN.out
              · have HSG : Hid (y5 ≠ 45) := fun e => h45 (HD5.out.symm.trans (by rw [e]; rfl))
                have h45b : (d5 == 45) = false := by simpa using h45
                have HPQ : Hid (∀ q, okP q → perB q = s → (⟨a1, a2, v, z⟩ : Per) = q) := fun q g1 g2 => by
                  obtain ⟨t1, t2, t3, t4, t5, t6⟩ := HQV.out q g1 g2
                  refine per_back q g1 z (by rw [HZ.out, t4, t5]) _ t1 t2 t3 (fun g => ?_) (fun g => ?_)
                  · exact absurd (t6.trans g) HSG.out
                  · rfl
                have CX : Hid (∀ W, Calls Tryz.prog 58 #[.agg #[.string A1, .string A2, .int .i64 v, .int .i64 z]] W (PostX ⟨a1, a2, v, z⟩ W)) := fun W => by rw [← HPV.out]; exact text_any _ W
                go_wp2_with fail
                have PB4 : Hid (PB G A1 A2 v z w (w3.setCell ⟨G + 1, 3, none⟩ (.int .i64 z))) := PB3.out.step 3 _ rfl
                generalize w3.setCell ⟨G + 1, 3, none⟩ (.int .i64 z) = w4 at PB4 ⊢
                clear c0 c1 c2 c3 cf
                refine (CX.out w4).mono ?_
                rintro ev w5 ⟨hb5, hor⟩
                have PB5 : Hid (PB G A1 A2 v z w w5) := PB4.out.grow hb5
                clear hb5
                obtain ⟨c0, c1, c2, c3, cf⟩ := PB5.out.cells
                rcases hor with ⟨hok, rfl⟩ | ⟨hno, rfl⟩
                · have HOK : Hid (okP ⟨a1, a2, v, z⟩) := hok
                  clear hok
                  obtain ⟨TX, HTX⟩ : ∃ S : ByteArray, Hid (⟨(perB ⟨a1, a2, v, z⟩).toArray⟩ = S) := ⟨_, rfl⟩
                  rw [HTX.out]
                  obtain ⟨bq, heq⟩ : ∃ b : Bool, (TX.toList == S.toList) = b := ⟨_, rfl⟩
                  have HEI : Hid (bq = true ↔ perB ⟨a1, a2, v, z⟩ = s) := hid (by
                    rw [← heq, ← HTX.out, ← HS.out, Lib.toList_data, Lib.toList_data]
                    simp)
                  have FIN : Hid (PostRP s (.returned (.tuple #[.agg #[.string A1, .string A2, .int .i64 v, .int .i64 z], .bool bq]))) := ⟨⟨a1, a2, v, z⟩, bq, by rw [HPV.out], fun h => ⟨HOK.out, HEI.out.1 h⟩, fun q g1 g2 => HEI.out.2 (by rw [HPQ.out q g1 g2]; exact g2)⟩
                  clear HEI
                  have E1 : Hid (w5.there G 0 (#[.string A1, .string A2, .int .i64 v, .int .i64 z] : Array Value).size) := hid (there_off PB5.out.res 0 (Nat.le_refl _))
                  have E2 : Hid ((Tryz.prog.info? 64).map (·.size) = some (#[.string A1, .string A2, .int .i64 v, .int .i64 z] : Array Value).size) := Tryz.size64
                  have E3 : Hid ((#[.string A1, .string A2, .int .i64 v, .int .i64 z] : Array Value).all (·.oneCell') = true) := hid (all_oneCell_toArray (fun v hv => by simp only [List.mem_cons, List.not_mem_nil, or_false] at hv; rcases hv with rfl | rfl | rfl | rfl <;> rfl))
                  go_wp2_with (refine wpList_store_mid rfl 64 _ _ rfl G 0 #[.string A1, .string A2, .int .i64 v, .int .i64 z] rfl rfl E1.out E2.out E3.out ?_)
                  refine bodyPost_ret (v := .tuple #[.agg #[.string A1, .string A2, .int .i64 v, .int .i64 z], .bool bq]) (results_mid2 Tryz.results109 _ _ G (#[.string A1, .string A2, .int .i64 v, .int .i64 z] : Array Value).toList _ rfl (World.rangeAt_setCells_same w5 G 0 _ E1.out) Tryz.underlying64 rfl Tryz.size64) rfl ⟨?_, ?_⟩
                  · rw [HG.out]; exact below_setCells (Nat.le_refl _) _ _ _ _ PB5.out.below
                  · exact FIN.out
                · have HNK : Hid (¬ okP ⟨a1, a2, v, z⟩) := hno
                  clear hno
                  have FIN : Hid (PostRP s (.returned (.tuple #[.agg #[.string A1, .string A2, .int .i64 v, .int .i64 z], .bool false]))) := ⟨⟨a1, a2, v, z⟩, false, by rw [HPV.out], (fun h => by cases h), fun q g1 g2 => absurd (by rw [HPQ.out q g1 g2]; exact g1) HNK.out⟩
                  have E1 : Hid (w5.there G 0 (#[.string A1, .string A2, .int .i64 v, .int .i64 z] : Array Value).size) := hid (there_off PB5.out.res 0 (Nat.le_refl _))
                  have E2 : Hid ((Tryz.prog.info? 64).map (·.size) = some (#[.string A1, .string A2, .int .i64 v, .int .i64 z] : Array Value).size) := Tryz.size64
                  have E3 : Hid ((#[.string A1, .string A2, .int .i64 v, .int .i64 z] : Array Value).all (·.oneCell') = true) := hid (all_oneCell_toArray (fun v hv => by simp only [List.mem_cons, List.not_mem_nil, or_false] at hv; rcases hv with rfl | rfl | rfl | rfl <;> rfl))
                  go_wp2_with (refine wpList_store_mid rfl 64 _ _ rfl G 0 #[.string A1, .string A2, .int .i64 v, .int .i64 z] rfl rfl E1.out E2.out E3.out ?_)
                  refine bodyPost_ret (v := .tuple #[.agg #[.string A1, .string A2, .int .i64 v, .int .i64 z], .bool false]) (results_mid2 Tryz.results109 _ _ G (#[.string A1, .string A2, .int .i64 v, .int .i64 z] : Array Value).toList _ rfl (World.rangeAt_setCells_same w5 G 0 _ E1.out) Tryz.underlying64 rfl Tryz.size64) rfl ⟨?_, ?_⟩
                  · rw [HG.out]; exact below_setCells (Nat.le_refl _) _ _ _ _ PB5.out.below
                  · exact FIN.out
            · have hdb : (d != 62) = true := by simpa using hd
              go_wp2
              go_roundg (n - (sh + 1))
              case measure => omega
              case rel =>
                refine ⟨sh + 1, by omega, by omega, rfl, by go_num, hid ?_, hid rfl⟩
                rw [take_snoc8 s sh y HY.out, List.drop_append_of_le_length (by rw [List.length_take, HN.out]; omega)]
                intro u hu
                rcases List.mem_append.1 hu with hu | hu
                · exact HT2.out u hu
                · have : u = y := by simpa using hu
                  subst this
                  rintro rfl
                  exact hd (HD.out.symm.trans rfl)
          · have hlti2 : ¬ (sh : Int) < (n : Int) := by omega
            have hge2 : (n : Int) ≤ (sh : Int) := by omega
            have HNO : Hid (∀ q, okP q → perB q ≠ s) := fun q h1 h2 => by
              have h3 := per_parts q h1 s h2 o sh HT.out (.inr HO2.out) hsh1 HT2.out (.inl (by rw [HN.out]; omega))
              have h4 := h3.2.2.1
              rw [HN.out] at h4
              omega
            obtain ⟨c0, c1, c2, c3, cf⟩ := PB1.out.cells
            by_cases ho1 : (o : Int) < 1
            · have E1 : Hid (w1.there G 0 (#[.string ⟨#[]⟩, .string ⟨#[]⟩, .int .i64 0, .int .i64 0] : Array Value).size) := hid (there_off PB1.out.res 0 (Nat.le_refl _))
              have E2 : Hid ((Tryz.prog.info? 64).map (·.size) = some (#[.string ⟨#[]⟩, .string ⟨#[]⟩, .int .i64 0, .int .i64 0] : Array Value).size) := Tryz.size64
              have E3 : Hid ((#[.string ⟨#[]⟩, .string ⟨#[]⟩, .int .i64 0, .int .i64 0] : Array Value).all (·.oneCell') = true) := hid (all_oneCell_toArray (fun v hv => by simp only [List.mem_cons, List.not_mem_nil, or_false] at hv; rcases hv with rfl | rfl | rfl | rfl <;> rfl))
              go_wp2_with (refine wpList_store_mid rfl 64 _ _ rfl G 0 #[.string ⟨#[]⟩, .string ⟨#[]⟩, .int .i64 0, .int .i64 0] rfl rfl E1.out E2.out E3.out ?_)
              refine bodyPost_ret (v := .tuple #[.agg #[.string ⟨#[]⟩, .string ⟨#[]⟩, .int .i64 0, .int .i64 0], .bool false]) (results_mid2 Tryz.results109 _ _ G (#[.string ⟨#[]⟩, .string ⟨#[]⟩, .int .i64 0, .int .i64 0] : Array Value).toList _ rfl (World.rangeAt_setCells_same w1 G 0 _ E1.out) Tryz.underlying64 rfl Tryz.size64) rfl ⟨?_, ?_⟩
              · rw [HG.out]; exact below_setCells (Nat.le_refl _) _ _ _ _ PB1.out.below
              · exact NOP.out HNO.out
            · have E1 : Hid (w1.there G 0 (#[.string ⟨#[]⟩, .string ⟨#[]⟩, .int .i64 0, .int .i64 0] : Array Value).size) := hid (there_off PB1.out.res 0 (Nat.le_refl _))
              have E2 : Hid ((Tryz.prog.info? 64).map (·.size) = some (#[.string ⟨#[]⟩, .string ⟨#[]⟩, .int .i64 0, .int .i64 0] : Array Value).size) := Tryz.size64
              have E3 : Hid ((#[.string ⟨#[]⟩, .string ⟨#[]⟩, .int .i64 0, .int .i64 0] : Array Value).all (·.oneCell') = true) := hid (all_oneCell_toArray (fun v hv => by simp only [List.mem_cons, List.not_mem_nil, or_false] at hv; rcases hv with rfl | rfl | rfl | rfl <;> rfl))
              go_wp2_with (refine wpList_store_mid rfl 64 _ _ rfl G 0 #[.string ⟨#[]⟩, .string ⟨#[]⟩, .int .i64 0, .int .i64 0] rfl rfl E1.out E2.out E3.out ?_)
              refine bodyPost_ret (v := .tuple #[.agg #[.string ⟨#[]⟩, .string ⟨#[]⟩, .int .i64 0, .int .i64 0], .bool false]) (results_mid2 Tryz.results109 _ _ G (#[.string ⟨#[]⟩, .string ⟨#[]⟩, .int .i64 0, .int .i64 0] : Array Value).toList _ rfl (World.rangeAt_setCells_same w1 G 0 _ E1.out) Tryz.underlying64 rfl Tryz.size64) rfl ⟨?_, ?_⟩
              · rw [HG.out]; exact below_setCells (Nat.le_refl _) _ _ _ _ PB1.out.below
              · exact NOP.out HNO.out
      · have hcb : (c != 60) = true := by simpa using hc
        go_wp2
        go_roundg (n - (o + 1))
        case measure => omega
        case rel =>
          refine ⟨o + 1, by omega, rfl, by go_num, hid ?_, hid rfl⟩
          rw [take_snoc8 s o x HX.out]
          intro u hu
          rcases List.mem_append.1 hu with hu | hu
          · exact HT.out u hu
          · have : u = x := by simpa using hu
            subst this
            rintro rfl
            exact hc (HC.out.symm.trans rfl)
    · have hlti : ¬ (o : Int) < (n : Int) := by omega
      go_wp2
      go_loopg [6] (n - o) (fun g i wr => ∃ sh : Nat, o ≤ sh ∧ sh ≤ n ∧ g = n - sh ∧ i = .int .i64 sh ∧ Hid (∀ x ∈ (s.take sh).drop o, x ≠ 62) ∧ Hid (wr = w1))
      case atStart => exact ⟨o, by omega, by omega, rfl, rfl, hid (by simp), hid rfl⟩
      case round =>
        obtain ⟨sh, hsh1, hsh, hk2, rfl, HT2, HWR⟩ := hrel
        have h2 : w1 = wr := HWR.out.symm
        subst h2
        clear HWR
        have hlti2 : ¬ (sh : Int) < (n : Int) := by omega
        have hge2 : (n : Int) ≤ (sh : Int) := by omega
        have HNO : Hid (∀ q, okP q → perB q ≠ s) := fun q h1 h2 => by
          have h3 := per_parts q h1 s h2 o sh HT.out (.inl (by rw [HN.out]; omega)) hsh1 HT2.out (.inl (by rw [HN.out]; omega))
          have h4 := h3.2.2.1
          rw [HN.out] at h4
          omega
        obtain ⟨c0, c1, c2, c3, cf⟩ := PB1.out.cells
        by_cases ho1 : (o : Int) < 1
        · have E1 : Hid (w1.there G 0 (#[.string ⟨#[]⟩, .string ⟨#[]⟩, .int .i64 0, .int .i64 0] : Array Value).size) := hid (there_off PB1.out.res 0 (Nat.le_refl _))
          have E2 : Hid ((Tryz.prog.info? 64).map (·.size) = some (#[.string ⟨#[]⟩, .string ⟨#[]⟩, .int .i64 0, .int .i64 0] : Array Value).size) := Tryz.size64
          have E3 : Hid ((#[.string ⟨#[]⟩, .string ⟨#[]⟩, .int .i64 0, .int .i64 0] : Array Value).all (·.oneCell') = true) := hid (all_oneCell_toArray (fun v hv => by simp only [List.mem_cons, List.not_mem_nil, or_false] at hv; rcases hv with rfl | rfl | rfl | rfl <;> rfl))
          go_wp2_with (refine wpList_store_mid rfl 64 _ _ rfl G 0 #[.string ⟨#[]⟩, .string ⟨#[]⟩, .int .i64 0, .int .i64 0] rfl rfl E1.out E2.out E3.out ?_)
          refine bodyPost_ret (v := .tuple #[.agg #[.string ⟨#[]⟩, .string ⟨#[]⟩, .int .i64 0, .int .i64 0], .bool false]) (results_mid2 Tryz.results109 _ _ G (#[.string ⟨#[]⟩, .string ⟨#[]⟩, .int .i64 0, .int .i64 0] : Array Value).toList _ rfl (World.rangeAt_setCells_same w1 G 0 _ E1.out) Tryz.underlying64 rfl Tryz.size64) rfl ⟨?_, ?_⟩
          · rw [HG.out]; exact below_setCells (Nat.le_refl _) _ _ _ _ PB1.out.below
          · exact NOP.out HNO.out
        · have E1 : Hid (w1.there G 0 (#[.string ⟨#[]⟩, .string ⟨#[]⟩, .int .i64 0, .int .i64 0] : Array Value).size) := hid (there_off PB1.out.res 0 (Nat.le_refl _))
          have E2 : Hid ((Tryz.prog.info? 64).map (·.size) = some (#[.string ⟨#[]⟩, .string ⟨#[]⟩, .int .i64 0, .int .i64 0] : Array Value).size) := Tryz.size64
          have E3 : Hid ((#[.string ⟨#[]⟩, .string ⟨#[]⟩, .int .i64 0, .int .i64 0] : Array Value).all (·.oneCell') = true) := hid (all_oneCell_toArray (fun v hv => by simp only [List.mem_cons, List.not_mem_nil, or_false] at hv; rcases hv with rfl | rfl | rfl | rfl <;> rfl))
          go_wp2_with (refine wpList_store_mid rfl 64 _ _ rfl G 0 #[.string ⟨#[]⟩, .string ⟨#[]⟩, .int .i64 0, .int .i64 0] rfl rfl E1.out E2.out E3.out ?_)
          refine bodyPost_ret (v := .tuple #[.agg #[.string ⟨#[]⟩, .string ⟨#[]⟩, .int .i64 0, .int .i64 0], .bool false]) (results_mid2 Tryz.results109 _ _ G (#[.string ⟨#[]⟩, .string ⟨#[]⟩, .int .i64 0, .int .i64 0] : Array Value).toList _ rfl (World.rangeAt_setCells_same w1 G 0 _ E1.out) Tryz.underlying64 rfl Tryz.size64) rfl ⟨?_, ?_⟩
          · rw [HG.out]; exact below_setCells (Nat.le_refl _) _ _ _ _ PB1.out.below
          · exact NOP.out HNO.out
end Go.Proofs.YtbpdielmdhhdfaaGreatDoor
/- The document's side of chapter 3: WriteTag. -/
namespace Go.Proofs.YtbpdielmdhhdfaaGreatDoor
open Go.RowKit
set_option linter.unusedVariables false
set_option linter.unusedSimpArgs false
theorem enter60 (v : Value) (w : World) : (callFunc 60 #[v]).run Tryz.prog w = .ok (.enter 60 #[v]) w := by kernel_rfl
theorem enter37 (v : Value) (w : World) : (callFunc 37 #[v]).run Tryz.prog w = .ok (.enter 37 #[v]) w := by kernel_rfl
theorem txt_size (l : List UInt8) : (⟨l.toArray⟩ : ByteArray).size = l.length := by simp [ByteArray.size]
/-- What the document's 'WriteTag' gives. -/
def PostU (t : Tg) (w : World) (e : Ending) (w' : World) : Prop := Below w.heap.size w w' ∧
  ((okG t ∧ ∃ g cap : Nat, e = .returned (.tuple #[.slice (some ⟨g, 0, none⟩) (tagB t).length cap, .int .i64 0]) ∧ w.heap.size ≤ g ∧ Mk w' g cap (nums (tagB t))) ∨ (¬ okG t ∧ e = .returned (.tuple #[.slice none 0 0, .int .i64 23])))
set_option maxRecDepth 20000 in
set_option maxHeartbeats 4000000 in
theorem writeTagR_any (t : Tg) (hid20 : t.id.length = 20) (hidB : ∀ n ∈ t.id, 0 ≤ n ∧ n < 256) (w : World) :
    Calls Tryz.prog 28 #[.agg (tgV t).toArray] w (PostU t w) := by
  obtain ⟨A, HA⟩ : ∃ A : Array Value, Hid ((tgV t).toArray = A) := ⟨_, rfl⟩
  have hsz : A.size = 27 := by rw [← HA.out, List.size_toArray]; exact tgV_len t hid20
  obtain ⟨G, HG⟩ : ∃ G, Hid (w.heap.size = G) := ⟨_, rfl⟩
  obtain ⟨w0, HW0⟩ : ∃ w0, Hid (w.alloc (.cells A 75) = w0) := ⟨_, rfl⟩
  have HX0 : Hid (BoxG G t w0) := hid (by rw [← HW0.out, ← HG.out, ← HA.out]; exact box_alloc t hid20 w 75)
  have HB0 : Hid (Below G w w0) := hid (by rw [← HW0.out, ← HG.out]; exact (Below.refl _ w).alloc (Nat.le_refl _) _)
  have hs0 : G < w0.heap.size := by rw [← HW0.out, ← HG.out]; simp
  obtain ⟨R, HR⟩ : ∃ R : List Value, Hid (row .u8 t.id = R) := ⟨_, rfl⟩
  obtain ⟨Kn, HK⟩ : ∃ S : ByteArray, Hid (kN t.kind = S) := ⟨_, rfl⟩
  obtain ⟨Hxs, HHX⟩ : ∃ S : ByteArray, Hid (strOfNums (Hx.hexOf t.id) = S) := ⟨_, rfl⟩
  obtain ⟨kd, HKD⟩ : ∃ kd, Hid (t.kind = kd) := ⟨_, rfl⟩
  obtain ⟨N, HNN⟩ : ∃ S : ByteArray, Hid (⟨t.name.toArray⟩ = S) := ⟨_, rfl⟩
  obtain ⟨M, HMM⟩ : ∃ S : ByteArray, Hid (⟨t.msg.toArray⟩ = S) := ⟨_, rfl⟩
  obtain ⟨P1, HP1⟩ : ∃ S : ByteArray, Hid (⟨t.per.name.toArray⟩ = S) := ⟨_, rfl⟩
  obtain ⟨P2, HP2⟩ : ∃ S : ByteArray, Hid (⟨t.per.mail.toArray⟩ = S) := ⟨_, rfl⟩
  obtain ⟨tm, HTM⟩ : ∃ x, Hid (t.per.time = x) := ⟨_, rfl⟩
  obtain ⟨zn, HZN⟩ : ∃ x, Hid (t.per.zone = x) := ⟨_, rfl⟩
  obtain ⟨Pt, HPT⟩ : ∃ S : ByteArray, Hid (⟨(perB t.per).toArray⟩ = S) := ⟨_, rfl⟩
  obtain ⟨TB, HTB⟩ : ∃ l : List UInt8, Hid (tagB t = l) := ⟨_, rfl⟩
  obtain ⟨ms, HMSB⟩ : ∃ b : Bool, Hid (isMsg t.msg = b) := ⟨_, rfl⟩
  have CT : Hid (∀ W, Calls Tryz.prog 66 #[.string N] W fun e w' => BIs (okN t.name) e ∧ w' = W) := fun W => by rw [← HNN.out]; exact isTagR_any t.name W
  have CP : Hid (∀ W, Calls Tryz.prog 58 #[.agg #[.string P1, .string P2, .int .i64 tm, .int .i64 zn]] W (PostX t.per W)) := fun W => by
    rw [← HP1.out, ← HP2.out, ← HTM.out, ← HZN.out]; exact text_any t.per W
  have CM : Hid (∀ W, Calls Tryz.prog 59 #[.string M] W fun e w' => e = .returned (.bool ms) ∧ w' = W) := fun W => by rw [← HMM.out, ← HMSB.out]; exact message_any t.msg W
  have CK : Hid (∀ W, Calls Tryz.prog 37 #[.int .i64 kd] W fun e w' => e = .returned (.string Kn) ∧ w' = W) := fun W => by rw [← HKD.out, ← HK.out]; exact name_any t.kind W
  have CH : Hid (∀ W, Calls Tryz.prog 60 #[.agg R.toArray] W fun e w' => e = .returned (.string Hxs) ∧ Below W.heap.size W w') := fun W => by
    rw [← HR.out, ← HHX.out]; exact Hx.hex_ref t.id W hid20 hidB
  have HBX : Hid (∀ W, Below w0.heap.size w0 W → BoxL G R kd N P1 P2 tm zn M W) := fun W hW => by
    have hx := HX0.out.below hs0 hW
    rw [← HR.out, ← HKD.out, ← HNN.out, ← HP1.out, ← HP2.out, ← HTM.out, ← HZN.out, ← HMM.out]
    exact ⟨hx.id, hx.c20, hx.c21, hx.c22, hx.c23, hx.c24, hx.c25, hx.c26⟩
  have HBE : Hid (∀ W, Below w0.heap.size w0 W → Below w.heap.size w W) := fun W hW => by rw [HG.out]; exact HB0.out.trans (hW.mono (Nat.le_of_lt hs0))
  have hA21 : A[21]'(by omega) = .string N := by
    have hr := cell_of_row w0 G 21 A 75 (0, 0) (by rw [← HW0.out, ← HG.out]; exact heap_alloc_new w _)
    rw [(HBX.out w0 (Below.refl _ _)).c21, Array.getElem?_eq_getElem (by omega)] at hr
    exact (Option.some.inj hr).symm
  have hi31 : (Tryz.prog.info? 31).map (·.size) = some R.length := by rw [← HR.out, row_len, hid20]; kernel_rfl
  have HI31 : Hid ((Tryz.prog.info? 31).map (·.size) = some R.length) := hi31
  have HHL : Hid (Hxs.size = 40) := hid (by rw [← HHX.out, strOfNums_size, Hx.hexOf_len, hid20])
  have HID : Hid (t.id.length = 20) := hid20
  clear hi31 hid20 hidB
  rw [HA.out]
  go_enter Tryz.func28, Tryz.ntmps28
  go_wp2_with fail
  rw [HG.out, HW0.out]
  clear hA21 hsz
  refine (CT.out w0).mono ?_
  rintro ev w0' ⟨hb, hw0⟩
  have hw0' := hw0.symm
  subst hw0'
  clear hw0
  obtain ⟨b1, rfl, hb1⟩ := hb
  have HB1 : Hid (b1 = true ↔ okN t.name) := hb1
  clear hb1
  obtain ⟨cid, c20, c21, c22, c23, c24, c25, c26⟩ := HBX.out w0 (Below.refl _ _)
  go_wp2_with fail
  refine (CP.out w0).mono ?_
  rintro ev w1 ⟨hb1, hor⟩
  have HBW : Hid (Below w0.heap.size w0 w1) := hb1
  have HOR : Hid ((okP t.per ∧ ev = .returned (.tuple #[.string Pt, .bool true])) ∨ (¬ okP t.per ∧ ev = .returned (.tuple #[.string ⟨#[]⟩, .bool false]))) := hid (by rw [← HPT.out]; exact hor)
  clear hor hb1 cid c20 c21 c22 c23 c24 c25 c26
  obtain ⟨cid, c20, c21, c22, c23, c24, c25, c26⟩ := HBX.out w1 HBW.out
  have hs1 : G < w1.heap.size := Nat.lt_of_lt_of_le hs0 HBW.out.size
  rcases HOR.out with ⟨hp, rfl⟩ | ⟨hp, rfl⟩
  rotate_left
  · have HNO : Hid (¬ okG t) := fun h => hp h.2.2.1
    clear HOR hp
    go_wp2_with fail
    refine (CM.out w1).mono ?_
    rintro ev w1' ⟨rfl, hw1⟩
    have hw1' := hw1.symm
    subst hw1'
    clear hw1
    go_wp2_with fail
    refine (CK.out w1).mono ?_
    rintro ev w1' ⟨rfl, hw1⟩
    have hw1' := hw1.symm
    subst hw1'
    clear hw1
    cases hk : Kn.toList.isEmpty
    all_goals
      cases b1
      all_goals
        go_wp2
        go_ret2
        exact ⟨HBE.out _ HBW.out, .inr ⟨HNO.out, rfl⟩⟩
  have HPO : Hid (okP t.per) := hp
  clear HOR hp
  go_wp2_with fail
  refine (CM.out w1).mono ?_
  rintro ev w1' ⟨rfl, hw1⟩
  have hw1' := hw1.symm
  subst hw1'
  clear hw1
  go_wp2_with fail
  refine (CK.out w1).mono ?_
  rintro ev w1' ⟨rfl, hw1⟩
  have hw1' := hw1.symm
  subst hw1'
  clear hw1
  by_cases hk : Kn.toList.isEmpty = true
  · have HNO : Hid (¬ okG t) := fun h => h.1 (by rw [HK.out]; exact hk)
    go_wp2
    go_ret2
    exact ⟨HBE.out _ HBW.out, .inr ⟨HNO.out, rfl⟩⟩
  have hk2 : Kn.toList.isEmpty = false := by simpa using hk
  cases b1 with
  | false =>
    have HNO : Hid (¬ okG t) := fun h => by have := HB1.out.2 h.2.1; cases this
    go_wp2
    go_ret2
    exact ⟨HBE.out _ HBW.out, .inr ⟨HNO.out, rfl⟩⟩
  | true =>
  cases ms with
  | false =>
    have HNO : Hid (¬ okG t) := fun h => by have h2 := h.2.2.2; rw [HMSB.out] at h2; cases h2
    go_wp2
    go_ret2
    exact ⟨HBE.out _ HBW.out, .inr ⟨HNO.out, rfl⟩⟩
  | true =>
  have HOK : Hid (okG t) := ⟨(by rw [HK.out]; exact hk), HB1.out.1 rfl, HPO.out, HMSB.out⟩
  have HN60 : Hid (N.size ≤ 60) := hid (by rw [← HNN.out, txt_size]; exact HOK.out.2.1.2.1)
  have HM2k : Hid (M.size ≤ 2000) := hid (by rw [← HMM.out, txt_size]; have := HOK.out.2.2.2; unfold isMsg at this; rw [Bool.and_eq_true] at this; exact of_decide_eq_true this.1)
  have HPL : Hid (Pt.size ≤ 1000) := hid (by rw [← HPT.out, txt_size]; exact perB_len t.per HOK.out.2.2.1)
  have HKL : Hid (Kn.size ≤ 10) := hid (by rw [← HK.out]; exact kN_len10 t.kind)
  have lw1 : (⟨#[111, 98, 106, 101, 99, 116, 32]⟩ : ByteArray).size = 7 := rfl
  have lw2 : (⟨#[10, 116, 121, 112, 101, 32]⟩ : ByteArray).size = 6 := rfl
  have lw3 : (⟨#[10, 116, 97, 103, 32]⟩ : ByteArray).size = 5 := rfl
  have lw4 : (⟨#[10, 116, 97, 103, 103, 101, 114, 32]⟩ : ByteArray).size = 8 := rfl
  have lw5 : (⟨#[10, 10]⟩ : ByteArray).size = 2 := rfl
  obtain ⟨A1, HA1⟩ : ∃ A, (⟨#[111, 98, 106, 101, 99, 116, 32]⟩ : ByteArray) ++ Hxs = A := ⟨_, rfl⟩
  have SA1 : Hid (A1.size = 7 + Hxs.size) := hid (by rw [← HA1, ByteArray.size_append, lw1])
  obtain ⟨A2, HA2⟩ : ∃ A, (A1 : ByteArray) ++ ⟨#[10, 116, 121, 112, 101, 32]⟩ = A := ⟨_, rfl⟩
  have SA2 : Hid (A2.size = A1.size + 6) := hid (by rw [← HA2, ByteArray.size_append, lw2])
  obtain ⟨A3, HA3⟩ : ∃ A, (A2 : ByteArray) ++ Kn = A := ⟨_, rfl⟩
  have SA3 : Hid (A3.size = A2.size + Kn.size) := hid (by rw [← HA3, ByteArray.size_append])
  obtain ⟨A4, HA4⟩ : ∃ A, (A3 : ByteArray) ++ ⟨#[10, 116, 97, 103, 32]⟩ = A := ⟨_, rfl⟩
  have SA4 : Hid (A4.size = A3.size + 5) := hid (by rw [← HA4, ByteArray.size_append, lw3])
  obtain ⟨A5, HA5⟩ : ∃ A, (A4 : ByteArray) ++ N = A := ⟨_, rfl⟩
  have SA5 : Hid (A5.size = A4.size + N.size) := hid (by rw [← HA5, ByteArray.size_append])
  obtain ⟨A6, HA6⟩ : ∃ A, (A5 : ByteArray) ++ ⟨#[10, 116, 97, 103, 103, 101, 114, 32]⟩ = A := ⟨_, rfl⟩
  have SA6 : Hid (A6.size = A5.size + 8) := hid (by rw [← HA6, ByteArray.size_append, lw4])
  obtain ⟨A7, HA7⟩ : ∃ A, (A6 : ByteArray) ++ Pt = A := ⟨_, rfl⟩
  have SA7 : Hid (A7.size = A6.size + Pt.size) := hid (by rw [← HA7, ByteArray.size_append])
  obtain ⟨A8, HA8⟩ : ∃ A, (A7 : ByteArray) ++ ⟨#[10, 10]⟩ = A := ⟨_, rfl⟩
  have SA8 : Hid (A8.size = A7.size + 2) := hid (by rw [← HA8, ByteArray.size_append, lw5])
  obtain ⟨A9, HA9⟩ : ∃ A, (A8 : ByteArray) ++ M = A := ⟨_, rfl⟩
  have SA9 : Hid (A9.size = A8.size + M.size) := hid (by rw [← HA9, ByteArray.size_append])
  have g0 : ¬ 9223372036854775807 < 7 + Hxs.size := by have q1 := HHL.out; have q2 := HKL.out; have q3 := HN60.out; have q4 := HPL.out; have q5 := HM2k.out; have r0 := SA1.out; omega
  have g1 : ¬ 9223372036854775807 < A1.size + 6 := by have q1 := HHL.out; have q2 := HKL.out; have q3 := HN60.out; have q4 := HPL.out; have q5 := HM2k.out; have r0 := SA1.out; have r1 := SA2.out; omega
  have g2 : ¬ 9223372036854775807 < A2.size + Kn.size := by have q1 := HHL.out; have q2 := HKL.out; have q3 := HN60.out; have q4 := HPL.out; have q5 := HM2k.out; have r0 := SA1.out; have r1 := SA2.out; have r2 := SA3.out; omega
  have g3 : ¬ 9223372036854775807 < A3.size + 5 := by have q1 := HHL.out; have q2 := HKL.out; have q3 := HN60.out; have q4 := HPL.out; have q5 := HM2k.out; have r0 := SA1.out; have r1 := SA2.out; have r2 := SA3.out; have r3 := SA4.out; omega
  have g4 : ¬ 9223372036854775807 < A4.size + N.size := by have q1 := HHL.out; have q2 := HKL.out; have q3 := HN60.out; have q4 := HPL.out; have q5 := HM2k.out; have r0 := SA1.out; have r1 := SA2.out; have r2 := SA3.out; have r3 := SA4.out; have r4 := SA5.out; omega
  have g5 : ¬ 9223372036854775807 < A5.size + 8 := by have q1 := HHL.out; have q2 := HKL.out; have q3 := HN60.out; have q4 := HPL.out; have q5 := HM2k.out; have r0 := SA1.out; have r1 := SA2.out; have r2 := SA3.out; have r3 := SA4.out; have r4 := SA5.out; have r5 := SA6.out; omega
  have g6 : ¬ 9223372036854775807 < A6.size + Pt.size := by have q1 := HHL.out; have q2 := HKL.out; have q3 := HN60.out; have q4 := HPL.out; have q5 := HM2k.out; have r0 := SA1.out; have r1 := SA2.out; have r2 := SA3.out; have r3 := SA4.out; have r4 := SA5.out; have r5 := SA6.out; have r6 := SA7.out; omega
  have g7 : ¬ 9223372036854775807 < A7.size + 2 := by have q1 := HHL.out; have q2 := HKL.out; have q3 := HN60.out; have q4 := HPL.out; have q5 := HM2k.out; have r0 := SA1.out; have r1 := SA2.out; have r2 := SA3.out; have r3 := SA4.out; have r4 := SA5.out; have r5 := SA6.out; have r6 := SA7.out; have r7 := SA8.out; omega
  have g8 : ¬ 9223372036854775807 < A8.size + M.size := by have q1 := HHL.out; have q2 := HKL.out; have q3 := HN60.out; have q4 := HPL.out; have q5 := HM2k.out; have r0 := SA1.out; have r1 := SA2.out; have r2 := SA3.out; have r3 := SA4.out; have r4 := SA5.out; have r5 := SA6.out; have r6 := SA7.out; have r7 := SA8.out; have r8 := SA9.out; omega
  have HE : Hid (A9 = ⟨TB.toArray⟩) := hid (by
    rw [← HTB.out, ← HA9, ← HA8, ← HA7, ← HA6, ← HA5, ← HA4, ← HA3, ← HA2, ← HA1, ← HHX.out, ← HPT.out, ← HNN.out, ← HMM.out, ← HK.out]
    apply ByteArray.ext
    apply Array.toList_inj.1
    simp [tagB, ln2, hexB, w_object, w_type, w_tag, w_tagger, strOfNums])
  have PE : Hid (∀ W gq cq, Below w0.heap.size w0 W → w0.heap.size ≤ gq → Mk W gq cq (nums TB) → PostU t w (.returned (.tuple #[.slice (some ⟨gq, 0, none⟩) TB.length cq, .int .i64 0])) W) := fun W gq cq a b c => by
    refine ⟨HBE.out W a, .inl ⟨HOK.out, gq, cq, ?_, Nat.le_trans (HBE.out w0 (Below.refl _ _)).size b, ?_⟩⟩
    · rw [HTB.out]
    · rw [HTB.out]; exact c
  clear cid c20 c21 c22 c23 c24 c25 c26
  have HXd : Hid (BoxL G R kd N P1 P2 tm zn M w1.drew) := hid (by
    have h := HBX.out w1 HBW.out
    exact ⟨h.id, h.c20, h.c21, h.c22, h.c23, h.c24, h.c25, h.c26⟩)
  go_wp2_with fail
  refine wp_region_held_drew (S := BoxL G R kd N P1 P2 tm zn M) (by kernel_rfl) (by exact HXd.out) (fun hHeld => ?_)
  have hsd : G < w1.drew.heap.size := hs1
  have HBd : Hid (Below w0.heap.size w0 w1.drew) := hid ⟨HBW.out.os, HBW.out.tape, HBW.out.output, HBW.out.size, HBW.out.block⟩
  clear HXd
  generalize w1.drew = wd at hHeld hsd HBd ⊢
  refine takeL (i := 0) (v := ?_) rfl (by kernel_rfl) (by kernel_rfl) (by kernel_rfl) (fun _ _ _ h => h) (Or.inl ⟨by rfl, ?_⟩) hHeld ?_
  rotate_left
  · rintro w' ⟨cid, c20, c21, c22, c23, c24, c25, c26⟩; go_simp; rfl
  try simp only [Act.put, List.setIfInBounds_toArray, List.set_cons_zero, List.set_cons_succ]
  refine takeL (i := 1) (v := .agg R.toArray) rfl (by kernel_rfl) (by kernel_rfl) (by kernel_rfl) (fun _ _ _ h => h) (yieldsIf_load_mid (by rfl) 31 _ rfl G 0 (by rfl) R _ (fun w' h => h.id) Tryz.underlying31 rfl HI31.out) hHeld ?_
  try simp only [Act.put, List.setIfInBounds_toArray, List.set_cons_zero, List.set_cons_succ]
  refine takeL (i := 5) (v := ?_) rfl (by kernel_rfl) (by kernel_rfl) (by kernel_rfl) (fun _ _ _ h => h) (Or.inl ⟨by rfl, ?_⟩) hHeld ?_
  rotate_left
  · rintro w' ⟨cid, c20, c21, c22, c23, c24, c25, c26⟩; go_simp; rfl
  try simp only [Act.put, List.setIfInBounds_toArray, List.set_cons_zero, List.set_cons_succ]
  refine takeL (i := 6) (v := ?_) rfl (by kernel_rfl) (by kernel_rfl) (by kernel_rfl) (fun _ _ _ h => h) (Or.inl ⟨by rfl, ?_⟩) hHeld ?_
  rotate_left
  · rintro w' ⟨cid, c20, c21, c22, c23, c24, c25, c26⟩; go_simp; rfl
  try simp only [Act.put, List.setIfInBounds_toArray, List.set_cons_zero, List.set_cons_succ]
  refine takeL (i := 10) (v := ?_) rfl (by kernel_rfl) (by kernel_rfl) (by kernel_rfl) (fun _ _ _ h => h) (Or.inl ⟨by rfl, ?_⟩) hHeld ?_
  rotate_left
  · rintro w' ⟨cid, c20, c21, c22, c23, c24, c25, c26⟩; go_simp; rfl
  try simp only [Act.put, List.setIfInBounds_toArray, List.set_cons_zero, List.set_cons_succ]
  refine takeL (i := 11) (v := ?_) rfl (by kernel_rfl) (by kernel_rfl) (by kernel_rfl) (fun _ _ _ h => h) (Or.inl ⟨by rfl, ?_⟩) hHeld ?_
  rotate_left
  · rintro w' ⟨cid, c20, c21, c22, c23, c24, c25, c26⟩; go_simp; rfl
  try simp only [Act.put, List.setIfInBounds_toArray, List.set_cons_zero, List.set_cons_succ]
  refine takeL (i := 14) (v := ?_) rfl (by kernel_rfl) (by kernel_rfl) (by kernel_rfl) (fun _ _ _ h => h) (Or.inl ⟨by rfl, ?_⟩) hHeld ?_
  rotate_left
  · rintro w' ⟨cid, c20, c21, c22, c23, c24, c25, c26⟩; go_simp; rfl
  try simp only [Act.put, List.setIfInBounds_toArray, List.set_cons_zero, List.set_cons_succ]
  refine takeL (i := 17) (v := ?_) rfl (by kernel_rfl) (by kernel_rfl) (by kernel_rfl) (fun _ _ _ h => h) (Or.inl ⟨by rfl, ?_⟩) hHeld ?_
  rotate_left
  · rintro w' ⟨cid, c20, c21, c22, c23, c24, c25, c26⟩; go_simp; rfl
  try simp only [Act.put, List.setIfInBounds_toArray, List.set_cons_zero, List.set_cons_succ]
  refine takeL (i := 18) (v := ?_) rfl (by kernel_rfl) (by kernel_rfl) (by kernel_rfl) (fun _ _ _ h => h) (Or.inl ⟨by rfl, ?_⟩) hHeld ?_
  rotate_left
  · rintro w' ⟨cid, c20, c21, c22, c23, c24, c25, c26⟩; go_simp; rfl
  try simp only [Act.put, List.setIfInBounds_toArray, List.set_cons_zero, List.set_cons_succ]
  refine wpAnyH_ready (rs := [2]) (by kernel_rfl) (by simp) ?_
  refine consL rfl (fun KK hKK => ?_) AllReadyH.nil
  refine step_callv (by rfl) 60 [.tmp 38] _ [.agg R.toArray] _ (by rfl) (by rfl) (enter60 _) (CH.out _) ?_
  rintro e w2 ⟨rfl, hb2⟩
  refine ⟨_, rfl, ?_⟩
  have HB2 : Hid (Below w0.heap.size w0 w2) := HBd.out.trans (hb2.mono HBd.out.size)
  refine hKK.out _ _ (hHeld.below hsd hb2) (fun hHeld => ?_)
  clear hKK KK hb2
  try simp only [Act.put, List.setIfInBounds_toArray, List.set_cons_zero, List.set_cons_succ]
  refine takeL (i := 3) (v := ?_) rfl (by kernel_rfl) (by kernel_rfl) (by kernel_rfl) (fun _ _ _ h => h) (Or.inl ⟨by rfl, ?_⟩) hHeld ?_
  rotate_left
  · rintro w' ⟨cid, c20, c21, c22, c23, c24, c25, c26⟩; go_simp; rfl
  try simp only [Act.put, List.setIfInBounds_toArray, List.set_cons_zero, List.set_cons_succ]
  refine takeL (i := 4) (v := ?_) rfl (by kernel_rfl) (by kernel_rfl) (by kernel_rfl) (fun _ _ _ h => h) (Or.inl ⟨by rfl, ?_⟩) hHeld ?_
  rotate_left
  · rintro w' ⟨cid, c20, c21, c22, c23, c24, c25, c26⟩; go_simp; rfl
  try simp only [Act.put, List.setIfInBounds_toArray, List.set_cons_zero, List.set_cons_succ]
  refine wpAnyH_ready (rs := [7]) (by kernel_rfl) (by simp) ?_
  refine consL rfl (fun KK hKK => ?_) AllReadyH.nil
  refine step_callv (by rfl) 37 [.tmp 43] _ [.int .i64 kd] _ (by rfl) (by rfl) (enter37 _) (CK.out _) ?_
  rintro e w2' ⟨rfl, hw2⟩
  refine ⟨_, rfl, ?_⟩
  have hw2' := hw2.symm
  subst hw2'
  refine hKK.out _ _ hHeld (fun hHeld => ?_)
  clear hKK KK hw2
  try simp only [Act.put, List.setIfInBounds_toArray, List.set_cons_zero, List.set_cons_succ]
  refine takeL (i := 8) (v := ?_) rfl (by kernel_rfl) (by kernel_rfl) (by kernel_rfl) (fun _ _ _ h => h) (Or.inl ⟨by rfl, ?_⟩) hHeld ?_
  rotate_left
  · rintro w' ⟨cid, c20, c21, c22, c23, c24, c25, c26⟩; go_simp; rfl
  try simp only [Act.put, List.setIfInBounds_toArray, List.set_cons_zero, List.set_cons_succ]
  refine takeL (i := 9) (v := ?_) rfl (by kernel_rfl) (by kernel_rfl) (by kernel_rfl) (fun _ _ _ h => h) (Or.inl ⟨by rfl, ?_⟩) hHeld ?_
  rotate_left
  · rintro w' ⟨cid, c20, c21, c22, c23, c24, c25, c26⟩; go_simp; rfl
  try simp only [Act.put, List.setIfInBounds_toArray, List.set_cons_zero, List.set_cons_succ]
  refine takeL (i := 12) (v := ?_) rfl (by kernel_rfl) (by kernel_rfl) (by kernel_rfl) (fun _ _ _ h => h) (Or.inl ⟨by rfl, ?_⟩) hHeld ?_
  rotate_left
  · rintro w' ⟨cid, c20, c21, c22, c23, c24, c25, c26⟩; go_simp; rfl
  try simp only [Act.put, List.setIfInBounds_toArray, List.set_cons_zero, List.set_cons_succ]
  refine takeL (i := 13) (v := ?_) rfl (by kernel_rfl) (by kernel_rfl) (by kernel_rfl) (fun _ _ _ h => h) (Or.inl ⟨by rfl, ?_⟩) hHeld ?_
  rotate_left
  · rintro w' ⟨cid, c20, c21, c22, c23, c24, c25, c26⟩; go_simp; rfl
  try simp only [Act.put, List.setIfInBounds_toArray, List.set_cons_zero, List.set_cons_succ]
  refine takeL (i := 15) (v := ?_) rfl (by kernel_rfl) (by kernel_rfl) (by kernel_rfl) (fun _ _ _ h => h) (Or.inl ⟨by rfl, ?_⟩) hHeld ?_
  rotate_left
  · rintro w' ⟨cid, c20, c21, c22, c23, c24, c25, c26⟩; go_simp; rfl
  try simp only [Act.put, List.setIfInBounds_toArray, List.set_cons_zero, List.set_cons_succ]
  refine takeL (i := 16) (v := ?_) rfl (by kernel_rfl) (by kernel_rfl) (by kernel_rfl) (fun _ _ _ h => h) (Or.inl ⟨by rfl, ?_⟩) hHeld ?_
  rotate_left
  · rintro w' ⟨cid, c20, c21, c22, c23, c24, c25, c26⟩; go_simp; rfl
  try simp only [Act.put, List.setIfInBounds_toArray, List.set_cons_zero, List.set_cons_succ]
  refine takeL (i := 19) (v := ?_) rfl (by kernel_rfl) (by kernel_rfl) (by kernel_rfl) (fun _ _ _ h => h) (Or.inl ⟨by rfl, ?_⟩) hHeld ?_
  rotate_left
  · rintro w' ⟨cid, c20, c21, c22, c23, c24, c25, c26⟩; go_simp; rfl
  try simp only [Act.put, List.setIfInBounds_toArray, List.set_cons_zero, List.set_cons_succ]
  refine takeL (i := 20) (v := ?_) rfl (by kernel_rfl) (by kernel_rfl) (by kernel_rfl) (fun _ _ _ h => h) (Or.inl ⟨by rfl, ?_⟩) hHeld ?_
  rotate_left
  · rintro w' ⟨cid, c20, c21, c22, c23, c24, c25, c26⟩; go_simp; rfl
  try simp only [Act.put, List.setIfInBounds_toArray, List.set_cons_zero, List.set_cons_succ]
  refine wpAnyH_done (by kernel_rfl) ?_ _
  obtain ⟨c2, w3, hr3, hm3, hb3, hs3⟩ := conv_mk TB w2
  rw [← HE.out] at hr3
  have HM3 : Hid _ := hm3
  have HB3 : Hid (Below w0.heap.size w0 w3) := HB2.out.trans (hb3.mono HB2.out.size)
  clear hm3 hb3 hHeld
  obtain ⟨L, HL⟩ : ∃ L, Hid (TB.length = L) := ⟨_, rfl⟩
  rw [HL.out] at hr3
  rw [HL.out] at PE
  go_wp2
  go_ret2
  exact PE.out _ _ c2 HB3.out HB2.out.size HM3.out
end Go.Proofs.YtbpdielmdhhdfaaGreatDoor
