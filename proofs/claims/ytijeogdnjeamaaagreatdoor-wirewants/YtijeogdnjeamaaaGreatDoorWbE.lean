/- 'first'. -/
import Derived.Test.YtijeogdnjeamaaaGreatDoorWbD
namespace Go.Proofs.YtijeogdnjeamaaaGreatDoor
open Go.RowKit
set_option linter.unusedVariables false
set_option linter.unusedSimpArgs false
theorem sl4 (a : Option Addr) (n cap j : Nat) (h : j ≤ cap) (w : World) : (Instr.slice 25 (.slice a n cap) none (some (.int .i64 j)) none).run Tryz.prog w = .ok (.slice a j cap) w := by
  rw [run_slice_h w 25 a n cap elem22 .i64 j (by omega) (by omega), size22e, Result.andThen_ok, sliced]
  congr 2
  split
  · rfl
  · cases a with
    | none => rfl
    | some p => obtain ⟨b, o, f⟩ := p; simp [Addr.add]
theorem szT_len (n : Nat) : (szT n).length = 4 := by
  unfold szT
  split <;> simp [hx4]
set_option maxRecDepth 20000 in
set_option maxHeartbeats 2000000 in
theorem first_any {w : World} (a : Option Addr) (cap : Nat) (s : Str) (hP : PB w a cap s) (hl : s.length ≤ 1000000) (he : Ers w) (hd : Db w) : Calls Tryz.prog 107 #[.slice a s.length cap] w (PostF a cap s w) := by
  obtain ⟨m, HM⟩ : ∃ m, Hid (s.length = m) := ⟨_, rfl⟩
  have hm : m ≤ 1000000 := by rw [← HM.out]; exact hl
  have hcap : m ≤ cap := by rw [← HM.out]; exact hP.capl
  have HPB := hid hP
  have HD := hid hd
  by_cases h4 : m < 4
  · have h4i : (m : Int) < 4 := by omega
    have HN : Hid (¬ ∃ n, Fst s n) := hid (by rintro ⟨n, h⟩; have := h.2.1; rw [HM.out] at this; omega)
    rw [HM.out]
    go_enter Tryz.func107, Tryz.ntmps107
    go_wp2
    refine bodyPost_ret (results_tmp3 Tryz.results107 _ _ _) rfl ?_
    exact ⟨Below.refl _ _, .inr ⟨HN.out, rfl⟩⟩
  have h4i : ¬ (m : Int) < 4 := by omega
  obtain ⟨t, HT⟩ : ∃ t, Hid (s.take 4 = t) := ⟨_, rfl⟩
  have htl : t.length = 4 := by rw [← HT.out, List.length_take, HM.out]; omega
  obtain ⟨S, HS⟩ : ∃ S : ByteArray, Hid (⟨t.toArray⟩ = S) := ⟨_, rfl⟩
  have hs4 : ∀ W : World, (Instr.slice 25 (.slice a m cap) none (some (.int .i64 4)) none).run Tryz.prog W = .ok (.slice a 4 cap) W := fun W => sl4 a m cap 4 (by omega) W
  have hcv : (convert 25 9 (.slice a 4 cap)).run Tryz.prog w = .ok (.string S) w := by
    have hp : PB w a cap t := by rw [← HT.out]; exact hP.take 4
    have := conv_str hp
    rw [htl] at this
    rw [← HS.out]
    exact this
  have C31 : Hid (Calls Tryz.prog 126 #[.string S, .int .i64 16, .int .i64 16] w fun e w' => PV t e ∧ Below w.heap.size w w') := hid (by rw [← HS.out]; exact parseU t (by omega) w he)
  rw [HM.out]
  clear hP hl he hd
  go_enter Tryz.func107, Tryz.ntmps107
  go_wp2_with fail
  refine C31.out.mono ?_
  rintro e w1 ⟨⟨v, ev, rfl, v0, v1, hor, hrd⟩, hb1⟩
  have HB1 := hid hb1
  have HRD := hid hrd
  have HD1 := hid (HD.out.below hb1)
  have HP1 : Hid (PB w1 a cap s) := hid (HPB.out.below hb1)
  clear hb1 hrd
  rcases hor with rfl | ⟨N, rfl⟩
  rotate_left
  · have HN : Hid (¬ ∃ n, Fst s n) := hid (by
      rintro ⟨n, h⟩
      have h3 := szT_hex n h.1
      rw [← h.2.2, HT.out] at h3
      have := (HRD.out _ h3.2 h3.1).2
      cases this)
    go_wp2
    refine bodyPost_ret (results_tmp3 Tryz.results107 _ _ _) rfl ?_
    exact ⟨HB1.out, .inr ⟨HN.out, rfl⟩⟩
  obtain ⟨q, HQ⟩ : ∃ q : Nat, Hid (max v 4 = (q : Int)) := ⟨(max v 4).toNat, hid (by omega)⟩
  have hq4 : 4 ≤ q := by have := HQ.out; omega
  have hqb : q ≤ 65535 := by have := HQ.out; omega
  have hvw : IntKind.i64.wrap v = v := by rw [IntKind.wrap_i64]; omega
  have HFQ : Hid (∀ n, Fst s n → q = 4 + n) := hid (fun n h => by
    have h3 := szT_hex n h.1
    rw [← h.2.2, HT.out] at h3
    have h5 := (HRD.out _ h3.2 h3.1).1
    have h6 := HQ.out
    by_cases h0 : n = 0
    · rw [if_pos h0] at h5; omega
    · rw [if_neg h0] at h5; omega)
  have hmx : (if v < 4 then (4 : Int) else v) = (q : Int) := by have := HQ.out; split <;> omega
  have hmx2 : (if (4 : Int) < v then v else 4) = (q : Int) := by have := HQ.out; split <;> omega
  have hmx3 : (if v ≤ 4 then (4 : Int) else v) = (q : Int) := by have := HQ.out; split <;> omega
  have hmx4 : max v 4 = (q : Int) := HQ.out
  have HBF : Hid (Below w.heap.size w w1) := HB1
  by_cases hbig : 1004 < q ∨ m < q
  · have HN : Hid (¬ ∃ n, Fst s n) := hid (by
      rintro ⟨n, h⟩
      have h1 := HFQ.out n h
      have h2 := h.1
      have h3 := h.2.1
      rw [HM.out] at h3
      omega)
    by_cases hb1 : 1004 < q
    · have hb1i : (1004 : Int) < (q : Int) := by omega
      clear hbig
      go_wp2
      refine bodyPost_ret (results_tmp3 Tryz.results107 _ _ _) rfl ?_
      exact ⟨HBF.out, .inr ⟨HN.out, rfl⟩⟩
    · have hb1i : ¬ (1004 : Int) < (q : Int) := by omega
      have hb2i : (m : Int) < (q : Int) := by omega
      clear hbig
      go_wp2
      refine bodyPost_ret (results_tmp3 Tryz.results107 _ _ _) rfl ?_
      exact ⟨HBF.out, .inr ⟨HN.out, rfl⟩⟩
  have hb1i : ¬ (1004 : Int) < (q : Int) := by omega
  have hb2i : ¬ (m : Int) < (q : Int) := by omega
  obtain ⟨n, HNn⟩ : ∃ n, Hid (q - 4 = n) := ⟨_, rfl⟩
  have hqn : q = 4 + n := by rw [← HNn.out]; omega
  obtain ⟨A4, HA4⟩ : ∃ x, Hid (adX 1 a cap 4 = x) := ⟨_, rfl⟩
  obtain ⟨c4, HC4⟩ : ∃ x, Hid (cap - 4 = x) := ⟨_, rfl⟩
  have hsl : ∀ W : World, (Instr.slice 25 (.slice a m cap) (some (.int .i64 4)) (some (.int .i64 (q : Int))) none).run Tryz.prog W = .ok (.slice A4 n c4) W := fun W => by
    have := sl22 a m cap 4 q (q : Int) rfl (by omega) (by omega) W
    rw [HA4.out, HC4.out, HNn.out] at this
    exact this
  have C17 : Hid (Calls Tryz.prog 94 #[.slice A4 n c4] w1 fun e w' => e = .returned (.string ⟨(szT n).toArray⟩) ∧ Below w1.heap.size w1 w') := hid (sizeOf_any A4 n c4 (by omega) w1 HD1.out)
  obtain ⟨Z, HZ⟩ : ∃ Z : ByteArray, Hid (⟨(szT n).toArray⟩ = Z) := ⟨_, rfl⟩
  rw [HZ.out] at C17
  obtain ⟨Aq, HAq⟩ : ∃ x, Hid (adX 1 a cap q = x) := ⟨_, rfl⟩
  obtain ⟨cq, HCq⟩ : ∃ x, Hid (cap - q = x) := ⟨_, rfl⟩
  obtain ⟨mq, HMq⟩ : ∃ x, Hid (m - q = x) := ⟨_, rfl⟩
  have hslq : ∀ W : World, (Instr.slice 25 (.slice a m cap) (some (.int .i64 (q : Int))) none none).run Tryz.prog W = .ok (.slice Aq mq cq) W := fun W => by
    have := sl22l a m cap q (by omega) W
    rw [HAq.out, HCq.out, HMq.out] at this
    exact this
  have HQN := hid hqn
  clear hbig hqn
  go_wp2_with fail
  refine C17.out.mono ?_
  rintro e w2 ⟨rfl, hb2⟩
  have HB2 : Hid (Below w.heap.size w w2) := hid (HB1.out.trans (hb2.mono HB1.out.size))
  clear hb2
  by_cases heq : szT n = t
  · have hbq : (Z.toList == S.toList) = true := by rw [← HZ.out, ← HS.out, heq]; simp
    have hbn : (Z.toList != S.toList) = false := by rw [bne, hbq]; rfl
    have HF : Hid (Fst s n) := hid ⟨by have := HQN.out; omega, by rw [HM.out]; have := HQN.out; omega, by rw [HT.out, heq]⟩
    clear heq
    go_wp2_with fail
    have HBd : Hid (Below w.heap.size w w2.drew) := hid (Below.drewR HB2.out)
    refine wp_region_held_drew (S := fun _ => True) (by kernel_rfl) trivial (fun hHeld => ?_)
    generalize w2.drew = wd at HBd ⊢
    refine takeL (i := 0) (v := ?_) rfl (by kernel_rfl) (by kernel_rfl) (by kernel_rfl) (fun _ _ _ h => h) (Or.inl ⟨by rfl, ?_⟩) hHeld ?_
    rotate_left
    · rintro w' _; go_simp; rfl
    try simp only [Act.put, List.setIfInBounds_toArray, List.set_cons_zero, List.set_cons_succ]
    refine takeL (i := 1) (v := ?_) rfl (by kernel_rfl) (by kernel_rfl) (by kernel_rfl) (fun _ _ _ h => h) (Or.inl ⟨by rfl, ?_⟩) hHeld ?_
    rotate_left
    · rintro w' _; go_simp; rfl
    try simp only [Act.put, List.setIfInBounds_toArray, List.set_cons_zero, List.set_cons_succ]
    refine takeL (i := 2) (v := ?_) rfl (by kernel_rfl) (by kernel_rfl) (by kernel_rfl) (fun _ _ _ h => h) (Or.inl ⟨by rfl, ?_⟩) hHeld ?_
    rotate_left
    · rintro w' _; go_simp; rfl
    try simp only [Act.put, List.setIfInBounds_toArray, List.set_cons_zero, List.set_cons_succ]
    refine takeL (i := 3) (v := .slice Aq mq cq) rfl (by kernel_rfl) (by kernel_rfl) (by kernel_rfl) (fun _ _ _ h => h) (Or.inl ⟨by rfl, ?_⟩) hHeld ?_
    · rintro w' _; go_simp; try rfl
    try simp only [Act.put, List.setIfInBounds_toArray, List.set_cons_zero, List.set_cons_succ]
    refine takeL (i := 4) (v := ?_) rfl (by kernel_rfl) (by kernel_rfl) (by kernel_rfl) (fun _ _ _ h => h) (Or.inl ⟨by rfl, ?_⟩) hHeld ?_
    rotate_left
    · rintro w' _; go_simp; rfl
    try simp only [Act.put, List.setIfInBounds_toArray, List.set_cons_zero, List.set_cons_succ]
    refine takeL (i := 5) (v := ?_) rfl (by kernel_rfl) (by kernel_rfl) (by kernel_rfl) (fun _ _ _ h => h) (Or.inl ⟨by rfl, ?_⟩) hHeld ?_
    rotate_left
    · rintro w' _; go_simp; rfl
    try simp only [Act.put, List.setIfInBounds_toArray, List.set_cons_zero, List.set_cons_succ]
    refine takeL (i := 6) (v := ?_) rfl (by kernel_rfl) (by kernel_rfl) (by kernel_rfl) (fun _ _ _ h => h) (Or.inl ⟨by rfl, ?_⟩) hHeld ?_
    rotate_left
    · rintro w' _; go_simp; rfl
    try simp only [Act.put, List.setIfInBounds_toArray, List.set_cons_zero, List.set_cons_succ]
    refine wpAnyH_done (by kernel_rfl) ?_ _
    clear hHeld
    go_wp2
    refine bodyPost_ret (results_tmp3 Tryz.results107 _ _ _) rfl ?_
    refine ⟨HBd.out, .inl ⟨n, HF.out, ?_⟩⟩
    rw [← HQN.out, HA4.out, HC4.out, HAq.out, HCq.out, HM.out, HMq.out]
    rfl
  · have hbq : (Z.toList == S.toList) = false := bne_txt HZ.out HS.out heq
    have hbn : (Z.toList != S.toList) = true := by rw [bne, hbq]; rfl
    have HN : Hid (¬ ∃ n, Fst s n) := hid (by
      rintro ⟨k, h⟩
      have h1 := HFQ.out k h
      have h2 := HQN.out
      have h3 : k = n := by omega
      subst h3
      exact heq (by rw [← HT.out, h.2.2]))
    clear heq
    go_wp2
    refine bodyPost_ret (results_tmp3 Tryz.results107 _ _ _) rfl ?_
    exact ⟨HB2.out, .inr ⟨HN.out, rfl⟩⟩
end Go.Proofs.YtijeogdnjeamaaaGreatDoor
