import Derived.Test.YtijeogdnjeamaaaGreatDoorQo03
namespace Go.Proofs.YtijeogdnjeamaaaGreatDoor
open Go.RowKit
set_option linter.unusedVariables false
set_option linter.unusedSimpArgs false
structure Ers (w : World) : Prop where
  s : ∃ ev, w.cell? ⟨3, 0, none⟩ = some ev ∧ (ev = .nilIface ∨ ∃ te pe, ev = .iface te pe)
  r : ∃ ev, w.cell? ⟨4, 0, none⟩ = some ev ∧ (ev = .nilIface ∨ ∃ te pe, ev = .iface te pe)
theorem Ers.below {w w' : World} (h : Ers w) (hb : Below w.heap.size w w') : Ers w' := by
  obtain ⟨⟨e1, h1, k1⟩, ⟨e2, h2, k2⟩⟩ := h
  exact ⟨⟨e1, (hb.cell (p := ⟨3, 0, none⟩) (cell_lt h1)).trans h1, k1⟩, ⟨e2, (hb.cell (p := ⟨4, 0, none⟩) (cell_lt h2)).trans h2, k2⟩⟩
def PV (l : List UInt8) (e : Ending) : Prop := ∃ (v : Int) (ev : Value), e = .returned (.tuple #[.int .u64 v, ev]) ∧ 0 ≤ v ∧ v ≤ 65535 ∧ (ev = .nilIface ∨ ∃ N, ev = .iface 247 (.pointer (some ⟨N, 0, none⟩))) ∧ (∀ r, l ≠ [] → hex16 0 l = some r → v = r ∧ ev = .nilIface)
set_option maxRecDepth 20000 in
theorem parseU (l : List UInt8) (hl : l.length ≤ 1000000) (w : World) (he : Ers w) : Calls Tryz.prog 126 #[.string ⟨l.toArray⟩, .int .i64 16, .int .i64 16] w fun e w' => PV l e ∧ Below w.heap.size w w' := by
  have HI : Hid (Calls Tryz.prog 144 #[.string ⟨l.toArray⟩, .int .i64 16, .int .i64 16] w fun e w' => PU l e ∧ Below w.heap.size w w') := parseUint16 l hl w
  obtain ⟨S, HS⟩ : ∃ S : ByteArray, Hid (⟨l.toArray⟩ = S) := ⟨_, rfl⟩
  have hsz : S.size ≤ 281474976710656 := by rw [← HS.out, txt_len]; omega
  have HE : Hid (Ers w) := he
  rw [HS.out] at HI
  rw [HS.out]
  clear he
  go_enter Tryz.func126, Tryz.ntmps126
  go_wp2_with fail
  refine HI.out.mono ?_
  rintro ev w1 ⟨⟨v, er, rfl, v0, v1, hor, hrd⟩, hb⟩
  have HB : Hid (Below w.heap.size w w1) := hb
  have HRD : Hid (∀ r, l ≠ [] → hex16 0 l = some r → v = r ∧ er = .nilIface) := hrd
  have HV : Hid (0 ≤ v ∧ v ≤ 65535) := hid ⟨v0, v1⟩
  obtain ⟨⟨e1, hv1, hev1⟩, ⟨e2, hv2, hev2⟩⟩ := HE.out.below hb
  clear hb hrd
  rcases hor with rfl | rfl | rfl
  · clear hv1 hv2 hev1 hev2
    go_wp2
    go_ret2
    exact ⟨⟨v, _, rfl, HV.out.1, HV.out.2, .inl rfl, fun r h1 h2 => ⟨(HRD.out r h1 h2).1, rfl⟩⟩, HB.out⟩
  · have C : Hid (Calls Tryz.prog 145 #[.string ⟨#[80, 97, 114, 115, 101, 85, 105, 110, 116]⟩, .string S, .int .i64 16, .int .i64 16, .iface 246 (.int .i64 1)] w1 fun e w' => ∃ N, e = .returned (.iface 247 (.pointer (some ⟨N, 0, none⟩))) ∧ Below w1.heap.size w1 w') := hid (by
      refine (Any.strconv_toError_range (ρ := Tryz.laysC245_ren) Tryz.laysC245 ⟨#[80, 97, 114, 115, 101, 85, 105, 110, 116]⟩ S 16 16 e2 w1 hsz hv2 hev2).mono ?_
      rintro e w2 ⟨N, rfl, h1, h2, h3⟩
      exact ⟨N, rfl, h3⟩)
    clear hv1 hv2 hev1 hev2
    go_wp2_with fail
    refine C.out.mono ?_
    rintro e w2 ⟨N, rfl, hb⟩
    have HB2 : Hid (Below w.heap.size w w2) := HB.out.trans (hb.mono HB.out.size)
    clear hb
    go_wp2
    go_ret2
    exact ⟨⟨v, _, rfl, HV.out.1, HV.out.2, .inr ⟨N, rfl⟩, fun r h1 h2 => by have := (HRD.out r h1 h2).2; cases this⟩, HB2.out⟩
  · have C : Hid (Calls Tryz.prog 145 #[.string ⟨#[80, 97, 114, 115, 101, 85, 105, 110, 116]⟩, .string S, .int .i64 16, .int .i64 16, .iface 246 (.int .i64 2)] w1 fun e w' => ∃ N, e = .returned (.iface 247 (.pointer (some ⟨N, 0, none⟩))) ∧ Below w1.heap.size w1 w') := hid (by
      refine (Any.strconv_toError_syntax (ρ := Tryz.laysC245_ren) Tryz.laysC245 ⟨#[80, 97, 114, 115, 101, 85, 105, 110, 116]⟩ S 16 16 e1 w1 hsz hv1 hev1).mono ?_
      rintro e w2 ⟨N, rfl, h1, h2, h3⟩
      exact ⟨N, rfl, h3⟩)
    clear hv1 hv2 hev1 hev2
    go_wp2_with fail
    refine C.out.mono ?_
    rintro e w2 ⟨N, rfl, hb⟩
    have HB2 : Hid (Below w.heap.size w w2) := HB.out.trans (hb.mono HB.out.size)
    clear hb
    go_wp2
    go_ret2
    exact ⟨⟨v, _, rfl, HV.out.1, HV.out.2, .inr ⟨N, rfl⟩, fun r h1 h2 => by have := (HRD.out r h1 h2).2; cases this⟩, HB2.out⟩
def Fst (s : Str) (n : Nat) : Prop := n ≤ 1000 ∧ 4 + n ≤ s.length ∧ s.take 4 = szT n
theorem szT_hex (n : Nat) (h : n ≤ 1000) : hex16 0 (szT n) = some (if n = 0 then 0 else n + 4) ∧ szT n ≠ [] := by
  unfold szT
  by_cases h0 : n = 0
  · rw [if_pos h0, if_pos h0]
    exact ⟨by decide, by simp⟩
  · rw [if_neg h0, if_neg h0]
    exact ⟨hex_hx4 _ (by omega), by simp [hx4]⟩
theorem fst_one {s : Str} {n m : Nat} (h : Fst s n) (k : Fst s m) : n = m := by
  have h1 := (szT_hex n h.1).1
  have h2 := (szT_hex m k.1).1
  rw [← h.2.2, k.2.2, h2] at h1
  have h3 := Option.some.inj h1
  by_cases hn : n = 0 <;> by_cases hm : m = 0 <;> simp [hn, hm] at h3 <;> omega
def PostF (a : Option Addr) (cap : Nat) (s : Str) (w : World) (e : Ending) (w' : World) : Prop :=
  Below w.heap.size w w' ∧ ((∃ n, Fst s n ∧ e = .returned (.tuple #[.slice (adX 1 a cap 4) n (cap - 4 : Nat), .slice (adX 1 a cap (4 + n)) (s.length - (4 + n) : Nat) (cap - (4 + n) : Nat), .nilIface])) ∨ ((¬ ∃ n, Fst s n) ∧ e = .returned (.tuple #[.slice none 0 0, .slice none 0 0, .iface 37 (.int .i64 110)])))
theorem Tryz.results107 : Tryz.f107.results = #[.tmp 2, .tmp 3, .tmp 4] := by kernel_rfl
end Go.Proofs.YtijeogdnjeamaaaGreatDoor
namespace Go.Proofs.YtijeogdnjeamaaaGreatDoor
open Go.RowKit
set_option linter.unusedVariables false
set_option linter.unusedSimpArgs false
theorem sl4 (a : Option Addr) (n cap j : Nat) (h : j ≤ cap) (w : World) : (Instr.slice 25 (.slice a n cap) none (some (.int .i64 j)) none).run Tryz.prog w = .ok (.slice a j cap) w := by
  rw [run_slice_h w 25 a n cap elem22 .i64 j (by omega) (by omega), size22e, Result.andThen_ok, sliced]
  congr 2
  split
  · rfl
  · cases a with
    | none => rfl
    | some p => obtain ⟨b, o, f⟩ := p; simp [Addr.add]
theorem szT_len (n : Nat) : (szT n).length = 4 := by
  unfold szT
  split <;> simp [hx4]
set_option maxRecDepth 20000 in
set_option maxHeartbeats 2000000 in
theorem first_any {w : World} (a : Option Addr) (cap : Nat) (s : Str) (hP : PB w a cap s) (hl : s.length ≤ 1000000) (he : Ers w) (hd : Db w) : Calls Tryz.prog 107 #[.slice a s.length cap] w (PostF a cap s w) := by
  obtain ⟨m, HM⟩ : ∃ m, Hid (s.length = m) := ⟨_, rfl⟩
  have hm : m ≤ 1000000 := by rw [← HM.out]; exact hl
  have hcap : m ≤ cap := by rw [← HM.out]; exact hP.capl
  have HPB := hid hP
  have HD := hid hd
  by_cases h4 : m < 4
  · have h4i : (m : Int) < 4 := by omega
    have HN : Hid (¬ ∃ n, Fst s n) := hid (by rintro ⟨n, h⟩; have := h.2.1; rw [HM.out] at this; omega)
    rw [HM.out]
    go_enter Tryz.func107, Tryz.ntmps107
    go_wp2
    refine bodyPost_ret (results_tmp3 Tryz.results107 _ _ _) rfl ?_
    exact ⟨Below.refl _ _, .inr ⟨HN.out, rfl⟩⟩
  have h4i : ¬ (m : Int) < 4 := by omega
  obtain ⟨t, HT⟩ : ∃ t, Hid (s.take 4 = t) := ⟨_, rfl⟩
  have htl : t.length = 4 := by rw [← HT.out, List.length_take, HM.out]; omega
  obtain ⟨S, HS⟩ : ∃ S : ByteArray, Hid (⟨t.toArray⟩ = S) := ⟨_, rfl⟩
  have hs4 : ∀ W : World, (Instr.slice 25 (.slice a m cap) none (some (.int .i64 4)) none).run Tryz.prog W = .ok (.slice a 4 cap) W := fun W => sl4 a m cap 4 (by omega) W
  have hcv : (convert 25 9 (.slice a 4 cap)).run Tryz.prog w = .ok (.string S) w := by
    have hp : PB w a cap t := by rw [← HT.out]; exact hP.take 4
    have := conv_str hp
    rw [htl] at this
    rw [← HS.out]
    exact this
  have C31 : Hid (Calls Tryz.prog 126 #[.string S, .int .i64 16, .int .i64 16] w fun e w' => PV t e ∧ Below w.heap.size w w') := hid (by rw [← HS.out]; exact parseU t (by omega) w he)
  rw [HM.out]
  clear hP hl he hd
  go_enter Tryz.func107, Tryz.ntmps107
  go_wp2_with fail
  refine C31.out.mono ?_
  rintro e w1 ⟨⟨v, ev, rfl, v0, v1, hor, hrd⟩, hb1⟩
  have HB1 := hid hb1
  have HRD := hid hrd
  have HD1 := hid (HD.out.below hb1)
  have HP1 : Hid (PB w1 a cap s) := hid (HPB.out.below hb1)
  clear hb1 hrd
  rcases hor with rfl | ⟨N, rfl⟩
  rotate_left
  · have HN : Hid (¬ ∃ n, Fst s n) := hid (by
      rintro ⟨n, h⟩
      have h3 := szT_hex n h.1
      rw [← h.2.2, HT.out] at h3
      have := (HRD.out _ h3.2 h3.1).2
      cases this)
    go_wp2
    refine bodyPost_ret (results_tmp3 Tryz.results107 _ _ _) rfl ?_
    exact ⟨HB1.out, .inr ⟨HN.out, rfl⟩⟩
  obtain ⟨q, HQ⟩ : ∃ q : Nat, Hid (max v 4 = (q : Int)) := ⟨(max v 4).toNat, hid (by omega)⟩
  have hq4 : 4 ≤ q := by have := HQ.out; omega
  have hqb : q ≤ 65535 := by have := HQ.out; omega
  have hvw : IntKind.i64.wrap v = v := by rw [IntKind.wrap_i64]; omega
  have HFQ : Hid (∀ n, Fst s n → q = 4 + n) := hid (fun n h => by
    have h3 := szT_hex n h.1
    rw [← h.2.2, HT.out] at h3
    have h5 := (HRD.out _ h3.2 h3.1).1
    have h6 := HQ.out
    by_cases h0 : n = 0
    · rw [if_pos h0] at h5; omega
    · rw [if_neg h0] at h5; omega)
  have hmx : (if v < 4 then (4 : Int) else v) = (q : Int) := by have := HQ.out; split <;> omega
  have hmx2 : (if (4 : Int) < v then v else 4) = (q : Int) := by have := HQ.out; split <;> omega
  have hmx3 : (if v ≤ 4 then (4 : Int) else v) = (q : Int) := by have := HQ.out; split <;> omega
  have hmx4 : max v 4 = (q : Int) := HQ.out
  have HBF : Hid (Below w.heap.size w w1) := HB1
  by_cases hbig : 1004 < q ∨ m < q
  · have HN : Hid (¬ ∃ n, Fst s n) := hid (by
      rintro ⟨n, h⟩
      have h1 := HFQ.out n h
      have h2 := h.1
      have h3 := h.2.1
      rw [HM.out] at h3
      omega)
    by_cases hb1 : 1004 < q
    · have hb1i : (1004 : Int) < (q : Int) := by omega
      clear hbig
      go_wp2
      refine bodyPost_ret (results_tmp3 Tryz.results107 _ _ _) rfl ?_
      exact ⟨HBF.out, .inr ⟨HN.out, rfl⟩⟩
    · have hb1i : ¬ (1004 : Int) < (q : Int) := by omega
      have hb2i : (m : Int) < (q : Int) := by omega
      clear hbig
      go_wp2
      refine bodyPost_ret (results_tmp3 Tryz.results107 _ _ _) rfl ?_
      exact ⟨HBF.out, .inr ⟨HN.out, rfl⟩⟩
  have hb1i : ¬ (1004 : Int) < (q : Int) := by omega
  have hb2i : ¬ (m : Int) < (q : Int) := by omega
  obtain ⟨n, HNn⟩ : ∃ n, Hid (q - 4 = n) := ⟨_, rfl⟩
  have hqn : q = 4 + n := by rw [← HNn.out]; omega
  obtain ⟨A4, HA4⟩ : ∃ x, Hid (adX 1 a cap 4 = x) := ⟨_, rfl⟩
  obtain ⟨c4, HC4⟩ : ∃ x, Hid (cap - 4 = x) := ⟨_, rfl⟩
  have hsl : ∀ W : World, (Instr.slice 25 (.slice a m cap) (some (.int .i64 4)) (some (.int .i64 (q : Int))) none).run Tryz.prog W = .ok (.slice A4 n c4) W := fun W => by
    have := sl22 a m cap 4 q (q : Int) rfl (by omega) (by omega) W
    rw [HA4.out, HC4.out, HNn.out] at this
    exact this
  have C17 : Hid (Calls Tryz.prog 94 #[.slice A4 n c4] w1 fun e w' => e = .returned (.string ⟨(szT n).toArray⟩) ∧ Below w1.heap.size w1 w') := hid (sizeOf_any A4 n c4 (by omega) w1 HD1.out)
  obtain ⟨Z, HZ⟩ : ∃ Z : ByteArray, Hid (⟨(szT n).toArray⟩ = Z) := ⟨_, rfl⟩
  rw [HZ.out] at C17
  obtain ⟨Aq, HAq⟩ : ∃ x, Hid (adX 1 a cap q = x) := ⟨_, rfl⟩
  obtain ⟨cq, HCq⟩ : ∃ x, Hid (cap - q = x) := ⟨_, rfl⟩
  obtain ⟨mq, HMq⟩ : ∃ x, Hid (m - q = x) := ⟨_, rfl⟩
  have hslq : ∀ W : World, (Instr.slice 25 (.slice a m cap) (some (.int .i64 (q : Int))) none none).run Tryz.prog W = .ok (.slice Aq mq cq) W := fun W => by
    have := sl22l a m cap q (by omega) W
    rw [HAq.out, HCq.out, HMq.out] at this
    exact this
  have HQN := hid hqn
  clear hbig hqn
  go_wp2_with fail
  refine C17.out.mono ?_
  rintro e w2 ⟨rfl, hb2⟩
  have HB2 : Hid (Below w.heap.size w w2) := hid (HB1.out.trans (hb2.mono HB1.out.size))
  clear hb2
  by_cases heq : szT n = t
  · have hbq : (Z.toList == S.toList) = true := by rw [← HZ.out, ← HS.out, heq]; simp
    have hbn : (Z.toList != S.toList) = false := by rw [bne, hbq]; rfl
    have HF : Hid (Fst s n) := hid ⟨by have := HQN.out; omega, by rw [HM.out]; have := HQN.out; omega, by rw [HT.out, heq]⟩
    clear heq
    go_wp2_with fail
    have HBd : Hid (Below w.heap.size w w2.drew) := hid (Below.drewR HB2.out)
    refine wp_region_held_drew (S := fun _ => True) (by kernel_rfl) trivial (fun hHeld => ?_)
    generalize w2.drew = wd at HBd ⊢
    refine takeL (i := 0) (v := ?_) rfl (by kernel_rfl) (by kernel_rfl) (by kernel_rfl) (fun _ _ _ h => h) (Or.inl ⟨by rfl, ?_⟩) hHeld ?_
    rotate_left
    · rintro w' _; go_simp; rfl
    try simp only [Act.put, List.setIfInBounds_toArray, List.set_cons_zero, List.set_cons_succ]
    refine takeL (i := 1) (v := ?_) rfl (by kernel_rfl) (by kernel_rfl) (by kernel_rfl) (fun _ _ _ h => h) (Or.inl ⟨by rfl, ?_⟩) hHeld ?_
    rotate_left
    · rintro w' _; go_simp; rfl
    try simp only [Act.put, List.setIfInBounds_toArray, List.set_cons_zero, List.set_cons_succ]
    refine takeL (i := 2) (v := ?_) rfl (by kernel_rfl) (by kernel_rfl) (by kernel_rfl) (fun _ _ _ h => h) (Or.inl ⟨by rfl, ?_⟩) hHeld ?_
    rotate_left
    · rintro w' _; go_simp; rfl
    try simp only [Act.put, List.setIfInBounds_toArray, List.set_cons_zero, List.set_cons_succ]
    refine takeL (i := 3) (v := .slice Aq mq cq) rfl (by kernel_rfl) (by kernel_rfl) (by kernel_rfl) (fun _ _ _ h => h) (Or.inl ⟨by rfl, ?_⟩) hHeld ?_
    · rintro w' _; go_simp; try rfl
    try simp only [Act.put, List.setIfInBounds_toArray, List.set_cons_zero, List.set_cons_succ]
    refine takeL (i := 4) (v := ?_) rfl (by kernel_rfl) (by kernel_rfl) (by kernel_rfl) (fun _ _ _ h => h) (Or.inl ⟨by rfl, ?_⟩) hHeld ?_
    rotate_left
    · rintro w' _; go_simp; rfl
    try simp only [Act.put, List.setIfInBounds_toArray, List.set_cons_zero, List.set_cons_succ]
    refine takeL (i := 5) (v := ?_) rfl (by kernel_rfl) (by kernel_rfl) (by kernel_rfl) (fun _ _ _ h => h) (Or.inl ⟨by rfl, ?_⟩) hHeld ?_
    rotate_left
    · rintro w' _; go_simp; rfl
    try simp only [Act.put, List.setIfInBounds_toArray, List.set_cons_zero, List.set_cons_succ]
    refine takeL (i := 6) (v := ?_) rfl (by kernel_rfl) (by kernel_rfl) (by kernel_rfl) (fun _ _ _ h => h) (Or.inl ⟨by rfl, ?_⟩) hHeld ?_
    rotate_left
    · rintro w' _; go_simp; rfl
    try simp only [Act.put, List.setIfInBounds_toArray, List.set_cons_zero, List.set_cons_succ]
    refine wpAnyH_done (by kernel_rfl) ?_ _
    clear hHeld
    go_wp2
    refine bodyPost_ret (results_tmp3 Tryz.results107 _ _ _) rfl ?_
    refine ⟨HBd.out, .inl ⟨n, HF.out, ?_⟩⟩
    rw [← HQN.out, HA4.out, HC4.out, HAq.out, HCq.out, HM.out, HMq.out]
    rfl
  · have hbq : (Z.toList == S.toList) = false := bne_txt HZ.out HS.out heq
    have hbn : (Z.toList != S.toList) = true := by rw [bne, hbq]; rfl
    have HN : Hid (¬ ∃ n, Fst s n) := hid (by
      rintro ⟨k, h⟩
      have h1 := HFQ.out k h
      have h2 := HQN.out
      have h3 : k = n := by omega
      subst h3
      exact heq (by rw [← HT.out, h.2.2]))
    clear heq
    go_wp2
    refine bodyPost_ret (results_tmp3 Tryz.results107 _ _ _) rfl ?_
    exact ⟨HB2.out, .inr ⟨HN.out, rfl⟩⟩
end Go.Proofs.YtijeogdnjeamaaaGreatDoor
namespace Go.Proofs.YtijeogdnjeamaaaGreatDoor
open Go.RowKit
set_option linter.unusedVariables false
set_option linter.unusedSimpArgs false
theorem run_empty (w : World) : (Instr.buildSlice 25 0 #[]).run Tryz.prog w = .ok (.slice (some ⟨w.heap.size, 0, none⟩) 0 0) (w.alloc (.cells #[] 5)) := by
  obtain ⟨i, hq, hz, hs, _⟩ := info_parts Tryz.info5
  simp [Instr.buildSlice, run_underlying Tryz.underlying25, sizeOf, typeInfo, hq, hs, Instr.fill, newRow]
  have e : Array.map (fun x : Nat => (default : Value)) (Array.range 0) = #[] := Array.ext' (by simp)
  rw [e]
theorem own_empty (w : World) : (w.alloc (.cells #[] 5)).ownsRow w.heap.size 5 1 (.slice (some ⟨w.heap.size, 0, none⟩) 0 0) ([] : Str).length (bv []) :=
  ⟨rfl, .inr ⟨w.heap.size, 0, _, rfl, Nat.le_refl _, heap_alloc_new w _, Nat.le_refl _, by decide, rfl, rfl⟩⟩
theorem eq_nil (p : Addr) (n cap : Nat) (w : World) : (binOp .eql 25 (.slice (some p) n cap) (.slice none 0 0)).run Tryz.prog w = .ok (.bool false) w := by
  first
    | (simp [binOp, Op.equal, Op.equalIn, run_underlying Tryz.underlying25]; done)
    | (simp [go_sem, binOp, run_underlying Tryz.underlying25]; done)
    | kernel_rfl
set_option maxRecDepth 20000 in
theorem clone_any {w : World} (p : Addr) (cap : Nat) (s : Str) (hP : PB w (some p) cap s) (hl : s.length ≤ 1000000) : Calls Tryz.prog 83 #[.slice (some p) s.length cap] w fun e w' => ∃ v, e = .returned v ∧ w'.ownsRow w.heap.size 5 1 v s.length (bv s) ∧ Below w.heap.size w w' := by
  obtain ⟨n, HN⟩ : ∃ n, Hid (s.length = n) := ⟨_, rfl⟩
  obtain ⟨W0, HW0⟩ : ∃ W, Hid (w.alloc (.cells #[] 5) = W) := ⟨_, rfl⟩
  have hbe := run_empty w
  rw [HW0.out] at hbe
  have HO : Hid (W0.ownsRow w.heap.size 5 1 (.slice (some ⟨w.heap.size, 0, none⟩) 0 0) ([] : Str).length (bv [])) := hid (by rw [← HW0.out]; exact own_empty w)
  have HB0 : Hid (Below w.heap.size w W0) := hid (by rw [← HW0.out]; exact (Below.refl _ _).alloc (Nat.le_refl _) _)
  have HP0 : Hid (PB W0 (some p) cap s) := hid (hP.below HB0.out)
  have hs0 : w.heap.size ≤ W0.heap.size := HB0.out.size
  have HL := hid hl
  have heqn : ∀ W : World, (binOp .eql 25 (.slice (some p) n cap) (.slice none 0 0)).run Tryz.prog W = .ok (.bool false) W := fun W => eq_nil p n cap W
  rw [HN.out]
  clear hP hl
  go_enter Tryz.func83, Tryz.ntmps83
  go_wp2_with (first | (at_builtin; rw [HW0.out]; refine wpList_own rfl _ _ rfl w.heap.size _ [] rfl HO.out hs0 (some p) cap s (by rw [HN.out]; rfl) HP0.out (by have := HL.out; simp; omega) ?_; intro v2 w2 ho2 hg2 hl2) | fail)
  have HO2 : Hid (w2.ownsRow w.heap.size 5 1 v2 s.length (bv s)) := hid (by simpa using ho2)
  have HB2 : Hid (Below w.heap.size w w2) := hid (HB0.out.grown hg2 hs0 (fun q hq => (own_lt HO.out q hq).1))
  clear ho2 hg2 hl2
  go_wp2
  go_ret
  exact ⟨_, rfl, by rw [← HN.out]; exact HO2.out, HB2.out⟩
def pkt (s : Str) : Str := szT s.length ++ s
end Go.Proofs.YtijeogdnjeamaaaGreatDoor
namespace Go.Proofs.YtijeogdnjeamaaaGreatDoor
open Go.RowKit
set_option linter.unusedVariables false
set_option linter.unusedSimpArgs false
abbrev Hdr := Option Addr × Nat × Str
def encT (t : Hdr) : List Value := [.slice t.1 t.2.2.length t.2.1]
def dT : Hdr := (none, 0, [])
abbrev PT (w : World) (a : Option Addr) (cap : Nat) (ts : List Hdr) : Prop := Px encT 1 dT w a cap ts
def AT (w : World) (ts : List Hdr) : Prop := ∀ t ∈ ts, PB w t.1 t.2.1 t.2.2
theorem AT.below {w w' : World} {ts : List Hdr} (h : AT w ts) (hb : Below w.heap.size w w') : AT w' ts := fun t ht => (h t ht).below hb
theorem PT.cell {w : World} {b off cap : Nat} {ts : List Hdr} (h : PT w (some ⟨b, off, none⟩) cap ts) (i : Nat) (hi : i < ts.length) : w.cell? ⟨b, off + i, none⟩ = some (.slice (ts.getD i dT).1 (ts.getD i dT).2.2.length (ts.getD i dT).2.1) := by
  obtain ⟨b', off', e1, _, e3⟩ := h.at_ (by omega)
  cases e1
  have := e3 i hi 0 _ rfl
  rw [show off + i * 1 + 0 = off + i by omega] at this
  exact this
theorem pkt_len (s : Str) : (pkt s).length = 4 + s.length := by unfold pkt; rw [List.length_append, szT_len]
theorem Db.b {w w' : World} {B : Nat} (h : Db w) (hb : Below B w w') (hB : B = w.heap.size) : Db w' := by subst hB; exact h.below hb
end Go.Proofs.YtijeogdnjeamaaaGreatDoor
namespace Go.Proofs.YtijeogdnjeamaaaGreatDoor
open Go.RowKit
set_option linter.unusedVariables false
set_option linter.unusedSimpArgs false
def pktL (ls : List Str) : Str := ls.flatMap pkt
def okL (ls : List Str) : Prop := ∀ x ∈ ls, x.length ≤ 1000
theorem pkt_fst (x r : Str) (h : x.length ≤ 1000) : Fst (pkt x ++ r) x.length := by
  refine ⟨h, by rw [List.length_append, pkt_len]; omega, ?_⟩
  unfold pkt
  rw [List.append_assoc, List.take_left' (szT_len _)]
theorem fst_pkt {s : Str} {n : Nat} (h : Fst s n) : s = pkt ((s.drop 4).take n) ++ s.drop (4 + n) ∧ ((s.drop 4).take n).length = n := by
  have hl : ((s.drop 4).take n).length = n := by rw [List.length_take, List.length_drop]; have := h.2.1; omega
  refine ⟨?_, hl⟩
  unfold pkt
  rw [hl, ← h.2.2, ← List.drop_drop, List.append_assoc, List.take_append_drop, List.take_append_drop]
theorem pktL_pre : ∀ (dn ls : List Str) (r : Str), okL dn → okL ls → pktL ls = pktL dn ++ r → ∃ rest, ls = dn ++ rest ∧ r = pktL rest
  | [], ls, r, _, _, h => ⟨ls, rfl, h.symm⟩
  | d :: dn, [], r, h1, h2, h => by
    have := congrArg List.length h
    simp [pktL, pkt_len] at this
    omega
  | d :: dn, x :: ls, r, h1, h2, h => by
    have e1 : pktL (x :: ls) = pkt x ++ pktL ls := rfl
    have e2 : pktL (d :: dn) ++ r = pkt d ++ (pktL dn ++ r) := by rw [show pktL (d :: dn) = pkt d ++ pktL dn from rfl, List.append_assoc]
    rw [e1, e2] at h
    have f1 := pkt_fst x (pktL ls) (h2 x (by simp))
    have f2 := pkt_fst d (pktL dn ++ r) (h1 d (by simp))
    rw [← h] at f2
    have hlen := fst_one f1 f2
    have hp : pkt x = pkt d := by
      have := congrArg (List.take (4 + x.length)) h
      rwa [List.take_left' (pkt_len x), List.take_left' (by rw [pkt_len, hlen])] at this
    have hx : x = d := by
      unfold pkt at hp
      rw [hlen] at hp
      exact List.append_cancel_left hp
    subst hx
    obtain ⟨rest, h3, h4⟩ := pktL_pre dn ls r (fun y hy => h1 y (by simp [hy])) (fun y hy => h2 y (by simp [hy])) (List.append_cancel_left h)
    exact ⟨rest, by rw [h3]; rfl, h4⟩
theorem pktL_app (x y : List Str) : pktL (x ++ y) = pktL x ++ pktL y := by simp [pktL]
theorem info23 : (Tryz.prog.info? 25).map (fun i => (i.zero, i.size, i.bytes)) = some (some (.slice none 0 0), 1, 24) := by kernel_rfl
structure LL (w W : World) (B : Nat) (v : Value) (hs : List Value) (ls : List Str) : Prop where
  bl : Below B w W
  le : B ≤ W.heap.size
  row : W.ownsRow B 25 1 v hs.length hs
  len : hs.length = ls.length
  each : ∀ i, i < ls.length → W.ownsRow B 5 1 (hs.getD i undef) (ls.getD i []).length (bv (ls.getD i []))
  dist : ∀ i j, i < j → j < ls.length → ∀ k, (hs.getD i undef).ownBlock = some k → (hs.getD j undef).ownBlock ≠ some k
theorem own_ty {W : World} {B B' : Nat} {e e' : TypeId} {s s' : Nat} {v v' : Value} {n n' : Nat} {xs xs' : List Value} (h : W.ownsRow B e s v n xs) (h' : W.ownsRow B' e' s' v' n' xs') {k : Nat} (hk : v.ownBlock = some k) (hk' : v'.ownBlock = some k) : e = e' := by
  obtain ⟨_, ⟨hv, _⟩ | ⟨g, cap, cur, hv, _, hh, _⟩⟩ := h
  · subst hv; cases hk
  · obtain ⟨_, ⟨hv', _⟩ | ⟨g', cap', cur', hv', _, hh', _⟩⟩ := h'
    · subst hv'; cases hk'
    · subst hv; subst hv'
      have e1 : g = k := Option.some.inj hk
      have e2 : g' = k := Option.some.inj hk'
      subst e1; subst e2
      rw [hh] at hh'
      cases hh'
      rfl
theorem LL.below {w W W' : World} {B : Nat} {v : Value} {hs : List Value} {ls : List Str} (h : LL w W B v hs ls) (hb : Below W.heap.size W W') : LL w W' B v hs ls :=
  ⟨h.bl.trans (hb.mono h.le), Nat.le_trans h.le hb.size, h.row.kept (row := none) (grown_of_below hb _) (by cases v.ownBlock <;> simp), h.len, fun i hi => (h.each i hi).kept (row := none) (grown_of_below hb _) (by cases (hs.getD i undef).ownBlock <;> simp), h.dist⟩
theorem LL.more {w W : World} {B : Nat} {v : Value} {hs : List Value} {ls : List Str} (h : LL w W B v hs ls) (hn : ls.length ≤ 20000) {B1 : Nat} {u : Value} {s : Str} (hu : W.ownsRow B1 5 1 u s.length (bv s)) (hB1 : B ≤ B1) (hnew : ∀ i, i < ls.length → ∀ k, (hs.getD i undef).ownBlock = some k → k < B1) (g : Nat) (hg : W.cell? ⟨g, 0, none⟩ = some u) (ty : TypeId) :
    ∃ v' W', (Builtin.append_ #[134, 134] ty #[v, .slice (some ⟨g, 0, none⟩) 1 1]).run Tryz.prog W = .ok v' W' ∧ LL w W' B v' (hs ++ [u]) (ls ++ [s]) := by
  obtain ⟨i, hi, hz0, hz1, hz2⟩ := info_parts info23
  obtain ⟨v', W', hr, h1, h2, _⟩ := run_append_own_at (P := Tryz.prog) W B 134 ty 25 i _ 1 24 Tryz.underlying134 hi hz0 hz1 hz2 rfl (by decide) v _ _ h.row ⟨g, 0, none⟩ 1 1 [u] rfl (fun j x hj => by
    cases j with
    | zero => cases hj; rw [addr_add]; exact hg
    | succ j => simp at hj) (fun x hx => by
    rw [List.mem_singleton.1 hx]
    obtain ⟨_, ⟨hv, _⟩ | ⟨g, cap, cur, hv, _⟩⟩ := hu
    · rw [hv]; rfl
    · rw [hv]; rfl) (by rw [h.len]; unfold maxLen; omega) (by rw [h.len]; omega) h.le
  have hel : ∀ i, i < ls.length → (hs ++ [u]).getD i undef = hs.getD i undef := fun i hi => by
    rw [List.getD_eq_getElem?_getD, List.getD_eq_getElem?_getD, List.getElem?_append_left (by rw [h.len]; exact hi)]
  have hev : (hs ++ [u]).getD ls.length undef = u := by
    rw [List.getD_eq_getElem?_getD, List.getElem?_append_right (by rw [h.len]; exact Nat.le_refl _), h.len, Nat.sub_self]
    rfl
  have kept : ∀ {C : Nat} {x : Value} {n : Nat} {xs : List Value}, W.ownsRow C 5 1 x n xs → W'.ownsRow C 5 1 x n xs := fun hx => hx.kept h2 (by
    cases hxo : Value.ownBlock _ with
    | none => exact .inl rfl
    | some k => exact .inr (fun e => by
        have := own_ty hx h.row hxo e.symm
        cases this))
  refine ⟨v', W', hr, h.bl.grown h2 h.le (fun k hk => (own_lt h.row k hk).1), Nat.le_trans h.le h2.size, by rw [List.length_append]; exact h1, by rw [List.length_append, List.length_append, h.len]; rfl, fun i hi => ?_, fun i j hij hj k hk => ?_⟩
  · rw [List.length_append, List.length_singleton] at hi
    by_cases e : i < ls.length
    · rw [hel i e, show (ls ++ [s]).getD i [] = ls.getD i [] by rw [List.getD_eq_getElem?_getD, List.getD_eq_getElem?_getD, List.getElem?_append_left e]]
      exact kept (h.each i e)
    · obtain rfl : i = ls.length := by omega
      rw [hev, show (ls ++ [s]).getD ls.length [] = s by rw [List.getD_eq_getElem?_getD, List.getElem?_append_right (Nat.le_refl _), Nat.sub_self]; rfl]
      exact base_mono (kept hu) hB1
  · rw [List.length_append, List.length_singleton] at hj
    rw [hel i (by omega)] at hk
    by_cases e : j < ls.length
    · rw [hel j e]
      exact h.dist i j hij e k hk
    · obtain rfl : j = ls.length := by omega
      rw [hev]
      intro h3
      have h4 := hnew i (by omega) k hk
      have h5 := (own_lt hu k h3).1
      omega
theorem ll_nil (w : World) (B : Nat) (h : B = w.heap.size) : LL w w B (.slice none 0 0) [] [] :=
  ⟨Below.refl _ _, by omega, ⟨rfl, .inl ⟨rfl, rfl⟩⟩, rfl, (fun i hi => absurd hi (by simp)), (fun i j hij hj => absurd hj (by simp))⟩
theorem run_hdr (u : Value) (hu : u.oneCell' = true) (h1 : u.cells = #[u]) (w : World) : (Instr.buildSlice 134 1 #[(0, u)]).run Tryz.prog w = .ok (.slice (some ⟨w.heap.size, 0, none⟩) 1 1) (w.alloc (.cells #[u] 25)) := by
  obtain ⟨i, hq, hz, hs, _⟩ := info_parts info23
  refine run_buildSlice w 134 25 1 _ #[u] i _ Tryz.underlying134 hq hz (by rw [hs]; decide) (by rw [hs]; decide) ?_
  rw [hs]
  have hr : Array.range 1 = #[0] := rfl
  simp [Instr.fill, h1, hr]
theorem own_hdr {W : World} {B : Nat} {e : TypeId} {s : Nat} {u : Value} {n : Nat} {xs : List Value} (h : W.ownsRow B e s u n xs) : u.oneCell' = true ∧ u.cells = #[u] := by
  obtain ⟨_, ⟨hv, _⟩ | ⟨g, cap, cur, hv, _⟩⟩ := h
  · rw [hv]; exact ⟨rfl, rfl⟩
  · rw [hv]; exact ⟨rfl, rfl⟩
theorem Tryz.results119 : Tryz.f119.results = #[.tmp 2, .tmp 3] := by kernel_rfl
def PostL (s : Str) (w : World) (e : Ending) (w' : World) : Prop :=
  Below w.heap.size w w' ∧ ((∃ ls, okL ls ∧ s = pktL ls ∧ ∃ v hs, e = .returned (.tuple #[v, .nilIface]) ∧ LL w w' w.heap.size v hs ls) ∨ ((¬ ∃ ls, okL ls ∧ s = pktL ls) ∧ e = .returned (.tuple #[.slice none 0 0, .iface 37 (.int .i64 110)])))
theorem adX_some {a : Option Addr} {cap j : Nat} (h : ∃ p, a = some p) : ∃ p, adX 1 a cap j = some p := by
  obtain ⟨p, rfl⟩ := h
  unfold adX
  split
  · exact ⟨p, rfl⟩
  · exact ⟨_, rfl⟩
set_option maxRecDepth 20000 in
set_option maxHeartbeats 4000000 in
theorem lines_any {w : World} (a : Option Addr) (cap : Nat) (s : Str) (hP : PB w a cap s) (hl : s.length ≤ 70000) (he : Ers w) (hd : Db w) : Calls Tryz.prog 119 #[.slice a s.length cap] w (PostL s w) := by
  obtain ⟨B, HB⟩ : ∃ B, Hid (w.heap.size = B) := ⟨_, rfl⟩
  have HEW : Hid (∀ W, Below B w W → Ers W) := fun W hW => he.below (by rw [HB.out]; exact hW)
  have HDW : Hid (∀ W, Below B w W → Db W) := fun W hW => hd.b hW HB.out.symm
  have HL0 : Hid (s.length ≤ 70000) := hl
  obtain ⟨m, HM⟩ : ∃ m, Hid (s.length = m) := ⟨_, rfl⟩
  have hm : m ≤ 70000 := by rw [← HM.out]; exact hl
  have HBW : Hid (∀ (aa : Option Addr) (cc : Nat) (r : Str), PB w aa cc r → ∀ W, Below B w W → PB W aa cc r) := fun aa cc r h W hW => h.below (by rw [HB.out]; exact hW)
  have HP := hid hP
  have S0 : Hid (LL w w B (.slice none 0 0) [] []) := hid (ll_nil w B HB.out.symm)
  rw [HM.out]
  clear hP hl he hd
  go_enter Tryz.func119, Tryz.ntmps119
  go_wp2_with fail
  go_loopg [0, 4] m (fun gg bv0 lv wr => ∃ (aa : Option Addr) (k cc : Nat) (r : Str) (dn : List Str) (hs : List Value), bv0 = .slice aa k cc ∧ k = gg ∧ Hid (r.length = k) ∧ Hid (PB w aa cc r) ∧ Hid (s = pktL dn ++ r) ∧ Hid (okL dn) ∧ Hid (LL w wr B lv hs dn) ∧ Hid (dn.length * 4 + r.length ≤ m))
  case atStart => exact ⟨a, m, cap, s, [], [], rfl, rfl, HM, HP, hid rfl, hid (fun x hx => by simp at hx), S0, hid (by rw [HM.out]; simp)⟩
  case round =>
    obtain ⟨aa, k, cc, r, dn, hs, rfl, hk, HRL, HPR, HE, HOK, HLL, HC⟩ := hrel
    have hkm : k ≤ m := by have := HC.out; rw [HRL.out] at this; omega
    by_cases h0 : 0 < k
    · have h0i : (0 : Int) < (k : Int) := by omega
      have C23 : Hid (Calls Tryz.prog 107 #[.slice aa k cc] wr (PostF aa cc r wr)) := hid (by
        have := first_any aa cc r (HBW.out _ _ _ HPR.out wr HLL.out.bl) (by rw [HRL.out]; omega) (HEW.out wr HLL.out.bl) (HDW.out wr HLL.out.bl)
        rw [HRL.out] at this
        exact this)
      have HKG : Hid (k = gk) := hk
      clear hk
      go_wp2_with fail
      refine C23.out.mono ?_
      rintro e w1 ⟨hb1, ⟨n, hf, rfl⟩ | ⟨hno, rfl⟩⟩
      · have HF := hid hf
        have HLL1 : Hid (LL w w1 B u4 hs dn) := hid (HLL.out.below hb1)
        obtain ⟨hpk, hsl⟩ := fst_pkt hf
        have hfl := hf.2.1
        have hf1 := hf.1
        rw [HRL.out] at hfl
        obtain ⟨x, HX⟩ : ∃ x, Hid ((r.drop 4).take n = x) := ⟨_, rfl⟩
        rw [HX.out] at hpk hsl
        have HXL := hid hsl
        have hsome : ∃ p, aa = some p := by
          obtain ⟨b, off, e1, _⟩ := HPR.out.at_ (by rw [HRL.out]; exact h0)
          exact ⟨_, e1⟩
        obtain ⟨p, hp⟩ := adX_some (cap := cc) (j := 4) hsome
        obtain ⟨A2, HA2⟩ : ∃ y, Hid (adX 1 aa cc (4 + n) = y) := ⟨_, rfl⟩
        obtain ⟨c2, HC2⟩ : ∃ y, Hid (cc - (4 + n) = y) := ⟨_, rfl⟩
        obtain ⟨k2, HK2⟩ : ∃ y, Hid (k - (4 + n) = y) := ⟨_, rfl⟩
        obtain ⟨c4, HC4⟩ : ∃ y, Hid (cc - 4 = y) := ⟨_, rfl⟩
        have HPL : Hid (PB w (some p) c4 x) := hid (by
          have := Px.mid HPR.out 4 (4 + n) (by omega) (by rw [HRL.out]; omega)
          rw [hp, HC4.out, show 4 + n - 4 = n by omega, HX.out] at this
          exact this)
        have HPR2 : Hid (PB w A2 c2 (r.drop (4 + n))) := hid (by
          have := Px.from HPR.out (4 + n) (by rw [HRL.out]; omega)
          rw [HA2.out, HC2.out] at this
          exact this)
        have C24 : Hid (Calls Tryz.prog 83 #[.slice (some p) n c4] w1 fun e w' => ∃ v, e = .returned v ∧ w'.ownsRow w1.heap.size 5 1 v x.length (bv x) ∧ Below w1.heap.size w1 w') := hid (by
          have := clone_any p c4 x (HBW.out _ _ _ HPL.out w1 HLL1.out.bl) (by rw [HXL.out]; omega)
          rw [HXL.out] at this
          rw [HXL.out]
          exact this)
        have HPK := hid hpk
        have hdl : dn.length ≤ 20000 := by have := HC.out; omega
        rw [hp, HA2.out, HC2.out, HRL.out, HK2.out, HC4.out]
        clear hf hb1 hpk hsl
        go_wp2_with fail
        refine C24.out.mono ?_
        rintro e w2 ⟨u, rfl, hu, hb2⟩
        have hll2 := HLL1.out.below hb2
        obtain ⟨ho1, ho2⟩ := own_hdr hu
        have hbs := run_hdr u ho1 ho2 w2
        obtain ⟨v5, W5, hr5, hl5⟩ := (hll2.below ((Below.refl _ w2).alloc (Nat.le_refl _) (.cells #[u] 25))).more hdl (hu.alloc (.cells #[u] 25)) HLL1.out.le (fun i hi q hq => by
          have h1 := HLL1.out.each i hi
          exact (own_lt h1 q hq).2) w2.heap.size (by
          have := cell_of_row (w2.alloc (.cells #[u] 25)) w2.heap.size 0 _ 25 (0, 0) (heap_alloc_new w2 _)
          rw [this]; rfl) 134
        obtain ⟨W3, HW3⟩ : ∃ W, Hid (w2.alloc (.cells #[u] 25) = W) := ⟨_, rfl⟩
        rw [HW3.out] at hr5 hbs
        have al3 : w2.alloc (.cells #[u] 25) = W3 := HW3.out
        have HL5 : Hid (LL w W5 B v5 (hs ++ [u]) (dn ++ [x])) := hid hl5
        have HE2 : Hid (s = pktL (dn ++ [x]) ++ r.drop (4 + n)) := hid (by
          rw [pktL_app, List.append_assoc, show pktL [x] = pkt x by simp [pktL], ← HPK.out]; exact HE.out)
        have HOK2 : Hid (okL (dn ++ [x])) := hid (fun y hy => (List.mem_append.1 hy).elim (HOK.out y) (fun h => by rw [List.mem_singleton.1 h, HXL.out]; exact hf1))
        have HC3 : Hid ((dn ++ [x]).length * 4 + (r.drop (4 + n)).length ≤ m) := hid (by
          rw [List.length_append, List.length_singleton, List.length_drop, HRL.out]
          have := HC.out
          rw [HRL.out] at this
          omega)
        have HRL2 : Hid ((r.drop (4 + n)).length = k2) := hid (by rw [List.length_drop, HRL.out, HK2.out])
        have hk2 : k2 < k := by rw [← HK2.out]; omega
        clear hu hb2 hll2 ho1 ho2 hl5
        go_wp2_with (first | (refine wpList_bSY rfl 134 1 _ rfl u _ rfl hbs ?_) | (at_builtin; refine wpList_app rfl _ _ 134 134 rfl 134 rfl _ _ rfl rfl hr5 ?_) | fail)
        go_roundg k2
        case measure => have := HKG.out; omega
        case rel => exact ⟨A2, k2, c2, r.drop (4 + n), dn ++ [x], hs ++ [u], rfl, rfl, HRL2, HPR2, HE2, HOK2, HL5, HC3⟩
      · have HNO : Hid (¬ ∃ ls, okL ls ∧ s = pktL ls) := hid (by
          rintro ⟨ls, h1, h2⟩
          obtain ⟨rest, h3, h4⟩ := pktL_pre dn ls r HOK.out h1 (by rw [← h2]; exact HE.out)
          cases rest with
          | nil =>
            have := congrArg List.length h4
            rw [HRL.out] at this
            simp [pktL] at this
            omega
          | cons x rest =>
            refine hno ⟨x.length, ?_⟩
            rw [h4]
            exact pkt_fst x (pktL rest) (h1 x (by rw [h3]; simp)))
        have HB2 : Hid (Below w.heap.size w w1) := hid (by rw [HB.out]; exact HLL.out.bl.trans (hb1.mono HLL.out.le))
        clear hno hb1
        go_wp2
        refine bodyPost_ret (results_tmp2 Tryz.results119 _ _ _) rfl ?_
        exact ⟨HB2.out, .inr ⟨HNO.out, rfl⟩⟩
    · have h0i : ¬ (0 : Int) < (k : Int) := by omega
      have HE2 : Hid (s = pktL dn) := hid (by
        have hr : r = [] := List.length_eq_zero_iff.1 (by rw [HRL.out]; omega)
        have := HE.out
        rw [hr, List.append_nil] at this
        exact this)
      clear hk
      go_wp2
      refine bodyPost_ret (results_tmp2 Tryz.results119 _ _ _) rfl ?_
      exact ⟨by rw [HB.out]; exact HLL.out.bl, .inl ⟨dn, HOK.out, HE2.out, _, hs, rfl, by rw [HB.out]; exact HLL.out⟩⟩
end Go.Proofs.YtijeogdnjeamaaaGreatDoor
