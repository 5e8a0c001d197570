import Derived.Test.YtijeogdnjeamaaaGreatDoorQp05
namespace Go.Proofs.YtijeogdnjeamaaaGreatDoor
open Go.RowKit
set_option linter.unusedVariables false
set_option linter.unusedSimpArgs false
theorem pb_newf (sm : Str) (w : World) (t : TypeId) (fr : Nat × Nat) : PB (w.alloc (.cells (bv sm).toArray t fr)) (some ⟨w.heap.size, 0, none⟩) sm.length sm :=
  ⟨Nat.le_refl _, fun _ => ⟨w.heap.size, 0, rfl, by simp, fun i hi j v hv => by
    have hj : j = 0 := by
      have := (List.getElem?_eq_some_iff.1 hv).1
      simp [encB] at this
      exact this
    subst hj
    have hb : (bv sm)[i]? = some v := by
      unfold bv
      rw [List.getElem?_map, List.getElem?_eq_getElem hi, ← hv, List.getD_eq_getElem?_getD, List.getElem?_eq_getElem hi]
      rfl
    have := range_row (heap_alloc_new w (.cells (bv sm).toArray t fr)) i v hb
    simpa using this⟩, fun h => by cases h⟩
def PostLi (s : Str) (w : World) (e : Ending) (w' : World) : Prop := Below w.heap.size w w' ∧ ∃ g c, e = .returned (.slice (some ⟨g, 0, none⟩) (pkt s).length c) ∧ w.heap.size ≤ g ∧ PB w' (some ⟨g, 0, none⟩) c (pkt s)
set_option maxRecDepth 20000 in
theorem line_any {w : World} (a : Option Addr) (cap : Nat) (s : Str) (hP : PB w a cap s) (hl : s.length ≤ 1000) : Calls Tryz.prog 60 #[.slice a s.length cap] w (PostLi s w) := by
  by_cases h0 : s.length = 0
  · obtain rfl : s = [] := List.length_eq_zero_iff.1 h0
    have hbe := run_four 48 48 48 48 w
    obtain ⟨W1, HW1⟩ : ∃ W, Hid (w.alloc (.cells #[.int .u8 48, .int .u8 48, .int .u8 48, .int .u8 48] 5 (4, 5)) = W) := ⟨_, rfl⟩
    have hcc := Lib.run_convert_bytes_const (P := Tryz.prog) w 25 5 #[.int .u8 48, .int .u8 48, .int .u8 48, .int .u8 48] 4 4 Tryz.underlying25 Tryz.underlying5
    have HE : Hid (w.alloc (.cells #[.int .u8 48, .int .u8 48, .int .u8 48, .int .u8 48] 5 ((#[.int .u8 48, .int .u8 48, .int .u8 48, .int .u8 48] : Array Value).size, (#[.int .u8 48, .int .u8 48, .int .u8 48, .int .u8 48] : Array Value).size + 1)) = W1) := hid HW1.out
    rw [HE.out] at hcc
    have HB0 : Hid (Below w.heap.size w W1) := hid (by rw [← HW1.out]; exact (Below.refl _ _).alloc (Nat.le_refl _) _)
    have HP0 : Hid (PB W1 (some ⟨w.heap.size, 0, none⟩) 4 (pkt [])) := hid (by rw [← HW1.out]; exact pb_newf [48, 48, 48, 48] w 5 (4, 5))
    clear hP hl h0
    show Calls Tryz.prog 60 #[.slice a 0 cap] w _
    go_enter Tryz.func60, Tryz.ntmps60
    go_wp2
    go_ret
    exact ⟨HB0.out, _, _, rfl, Nat.le_refl _, HP0.out⟩
  · obtain ⟨n, HN⟩ : ∃ n, Hid (s.length = n) := ⟨_, rfl⟩
    have hn : n ≤ 1000 := by rw [← HN.out]; exact hl
    have hn0 : ((n : Int) == 0) = false := by rw [HN.out] at h0; simp; omega
    have C18 : Hid (Calls Tryz.prog 95 #[.int .i64 ((n : Int) + 4)] w fun e w' => e = .returned (.string ⟨(hx4 (n + 4)).toArray⟩) ∧ Below w.heap.size w w') := hid (digits_any (n + 4) (by omega) w)
    have HZ4 : Hid (szT n = hx4 (n + 4)) := hid (by unfold szT; rw [if_neg (by rw [← HN.out]; exact h0)])
    rw [← HZ4.out] at C18
    have HPB := hid hP
    obtain ⟨Z, HZ⟩ : ∃ Z : ByteArray, Hid (⟨(szT n).toArray⟩ = Z) := ⟨_, rfl⟩
    rw [HZ.out] at C18
    rw [HN.out]
    clear hP hl h0
    go_enter Tryz.func60, Tryz.ntmps60
    go_wp2_with fail
    refine C18.out.mono ?_
    rintro e w1 ⟨rfl, hb1⟩
    obtain ⟨c2, w2, hr2, hm2, hb2⟩ := conv_mk (szT n) w1
    rw [HZ.out, szT_len] at hr2
    obtain ⟨v3, w3, hr3, g3, c3, hv3, hm3, hor3, hg3⟩ := app_mk w2 w1.heap.size c2 (szT n) s a cap hm2 ((HPB.out.below hb1).below hb2) (by rw [szT_len, HN.out]; omega)
    rw [szT_len, HN.out] at hr3
    have HB3 : Hid (Below w.heap.size w w3) := hid (by
      have h1 : Below w.heap.size w w2 := hb1.trans (hb2.mono hb1.size)
      exact h1.grown hg3 (Nat.le_trans hb1.size hb2.size) (fun k hk => by cases hk; exact hb1.size))
    have HP3 : Hid (PB w3 (some ⟨g3, 0, none⟩) c3 (pkt s)) := hid (by have := hm3.pb; unfold pkt; rw [HN.out]; exact this)
    have HG3 : Hid (w.heap.size ≤ g3) := hid (by
      have h1 := hb1.size
      have h2 := hb2.size
      rcases hor3 with h | h <;> omega)
    have HV3 : Hid (v3 = .slice (some ⟨g3, 0, none⟩) (pkt s).length c3) := hid (by rw [hv3]; unfold pkt; rw [HN.out])
    clear hb1 hb2 hm2 hm3 hor3 hg3 hv3
    go_wp2_with (first | (at_builtin; refine wpList_app rfl _ _ 25 25 rfl 25 rfl _ _ rfl rfl hr3 ?_) | fail)
    go_wp2
    go_ret
    exact ⟨HB3.out, g3, c3, by rw [← HV3.out]; rfl, HG3.out, HP3.out⟩
theorem szT_inj {n m : Nat} (hn : n ≤ 1000) (hm : m ≤ 1000) (h : szT n = szT m) : n = m := by
  have h1 := (szT_hex n hn).1
  have h2 := (szT_hex m hm).1
  rw [h, h2] at h1
  have h3 := Option.some.inj h1
  by_cases h4 : n = 0 <;> by_cases h5 : m = 0 <;> simp [h4, h5] at h3 <;> omega
def PostNx (a : Option Addr) (cap : Nat) (s : Str) (w : World) (e : Ending) (w' : World) : Prop :=
  Below w.heap.size w w' ∧ ((∃ n, Fst s n ∧ e = .returned (.tuple #[.slice (adX 1 a cap 4) n (cap - 4 : Nat), .slice (adX 1 a cap (4 + n)) (s.length - (4 + n) : Nat) (cap - (4 + n) : Nat), .bool true])) ∨ ((¬ ∃ n, Fst s n) ∧ e = .returned (.tuple #[.slice none 0 0, .slice a s.length cap, .bool false])))
theorem Tryz.results84 : Tryz.f84.results = #[.tmp 2, .tmp 3, .tmp 4] := by kernel_rfl
set_option maxRecDepth 20000 in
set_option maxHeartbeats 4000000 in
theorem next_any {w : World} (a : Option Addr) (cap : Nat) (s : Str) (hP : PB w a cap s) (hl : s.length ≤ 1000000) : Calls Tryz.prog 84 #[.slice a s.length cap] w (PostNx a cap s w) := by
  obtain ⟨m, HM⟩ : ∃ m, Hid (s.length = m) := ⟨_, rfl⟩
  have hm : m ≤ 1000000 := by rw [← HM.out]; exact hl
  have hcap : m ≤ cap := by rw [← HM.out]; exact hP.capl
  have HPB := hid hP
  by_cases h4 : m < 4
  · have h4i : (m : Int) < 4 := by omega
    have HN : Hid (¬ ∃ n, Fst s n) := hid (by rintro ⟨n, h⟩; have := h.2.1; rw [HM.out] at this; omega)
    rw [HM.out]
    go_enter Tryz.func84, Tryz.ntmps84
    go_wp2
    refine bodyPost_ret (results_tmp3 Tryz.results84 _ _ _) rfl ?_
    exact ⟨Below.refl _ _, .inr ⟨HN.out, by rw [HM.out]; rfl⟩⟩
  have h4i : ¬ (m : Int) < 4 := by omega
  obtain ⟨t, HT⟩ : ∃ t, Hid (s.take 4 = t) := ⟨_, rfl⟩
  have HTL : Hid (t.length = 4) := hid (by rw [← HT.out, List.length_take, HM.out]; omega)
  obtain ⟨S, HS⟩ : ∃ S : ByteArray, Hid (⟨t.toArray⟩ = S) := ⟨_, rfl⟩
  have hs4 : ∀ W : World, (Instr.slice 25 (.slice a m cap) none (some (.int .i64 4)) none).run Tryz.prog W = .ok (.slice a 4 cap) W := fun W => sl4 a m cap 4 (by omega) W
  have HCV : Hid (∀ W : World, Below w.heap.size w W → (convert 25 9 (.slice a 4 cap)).run Tryz.prog W = .ok (.string S) W) := hid (fun W hW => by
    have hp : PB W a cap t := by rw [← HT.out]; exact (HPB.out.below hW).take 4
    have := conv_str hp
    rw [HTL.out] at this
    rw [← HS.out]
    exact this)
  rw [HM.out]
  clear hP hl
  go_enter Tryz.func84, Tryz.ntmps84
  go_wp2_with fail
  go_loopg [5] 1001 (fun gg nv wr => ∃ n : Nat, nv = .int .i64 n ∧ n ≤ 1001 ∧ gg = 1001 - n ∧ Hid (Below w.heap.size w wr) ∧ Hid (∀ j, j < n → t ≠ szT j))
  case atStart => exact ⟨0, rfl, Nat.zero_le _, rfl, hid (Below.refl _ _), hid (fun j hj => by omega)⟩
  case round =>
    obtain ⟨n, rfl, hn, hk, HBW, HNO⟩ := hrel
    by_cases hlt : n ≤ 1000
    · have hlti : (n : Int) ≤ 1000 := by omega
      have C18 : Hid (Calls Tryz.prog 95 #[.int .i64 ((n : Int) + 4)] wr fun e w' => e = .returned (.string ⟨(hx4 (n + 4)).toArray⟩) ∧ Below wr.heap.size wr w') := hid (digits_any (n + 4) (by omega) wr)
      obtain ⟨Y, HY⟩ : ∃ Y : ByteArray, Hid (⟨(hx4 (n + 4)).toArray⟩ = Y) := ⟨_, rfl⟩
      rw [HY.out] at C18
      by_cases hz : n = 0
      · have hz0 : ((n : Int) == 0) = true := by simp [hz]
        obtain ⟨Z, HZ⟩ : ∃ Z : ByteArray, Hid (⟨(szT n).toArray⟩ = Z) := ⟨_, rfl⟩
        have HN0 := hid hz
        clear hz
        go_wp2_with fail
        refine C18.out.mono ?_
        rintro e w1 ⟨rfl, hb1⟩
        have HB1 : Hid (Below w.heap.size w w1) := hid (HBW.out.trans (hb1.mono HBW.out.size))
        have hcv := HCV.out w1 HB1.out
        clear hb1
        by_cases heq : t = szT n
        · have hbq : (S.toList == Z.toList) = true := by rw [← HZ.out, ← HS.out, heq]; simp
          have hb48 : (S.toList == [48, 48, 48, 48]) = true := by have ht : t = [48, 48, 48, 48] := (by rw [heq, HN0.out]; rfl)
                                                                  rw [← HS.out, ht]; simp
          have HONE : Hid (∀ j, Fst s j → j = n) := hid (fun j h => szT_inj h.1 (by omega) (by rw [← h.2.2, HT.out, heq]))
          have HEQ := hid heq
          clear heq
          by_cases hsm : m < 4 + n
          · have hsmi : (m : Int) < 4 + (n : Int) := by omega
            have HN : Hid (¬ ∃ n, Fst s n) := hid (by
              rintro ⟨j, h⟩
              have h1 := HONE.out j h
              have h2 := h.2.1
              rw [HM.out] at h2
              omega)
            go_wp2
            refine bodyPost_ret (results_tmp3 Tryz.results84 _ _ _) rfl ?_
            exact ⟨HB1.out, .inr ⟨HN.out, by rw [HM.out]; rfl⟩⟩
          · have hsmi : ¬ (m : Int) < 4 + (n : Int) := by omega
            have hwr : IntKind.i64.wrap (4 + (n : Int)) = 4 + (n : Int) := by rw [IntKind.wrap_i64]; omega
            have HF : Hid (Fst s n) := hid ⟨by omega, by rw [HM.out]; omega, by rw [HT.out, HEQ.out]⟩
            obtain ⟨A4, HA4⟩ : ∃ x, Hid (adX 1 a cap 4 = x) := ⟨_, rfl⟩
            obtain ⟨c4, HC4⟩ : ∃ x, Hid (cap - 4 = x) := ⟨_, rfl⟩
            obtain ⟨Aq, HAq⟩ : ∃ x, Hid (adX 1 a cap (4 + n) = x) := ⟨_, rfl⟩
            obtain ⟨cq, HCq⟩ : ∃ x, Hid (cap - (4 + n) = x) := ⟨_, rfl⟩
            obtain ⟨mq, HMq⟩ : ∃ x, Hid (m - (4 + n) = x) := ⟨_, rfl⟩
            have hsl : ∀ W : World, (Instr.slice 25 (.slice a m cap) (some (.int .i64 4)) (some (.int .i64 (4 + (n : Int)))) none).run Tryz.prog W = .ok (.slice A4 n c4) W := fun W => by
              have := sl22 a m cap 4 (4 + n) (4 + (n : Int)) (by omega) (by omega) (by omega) W
              rw [HA4.out, HC4.out, show 4 + n - 4 = n by omega] at this
              exact this
            have hslq : ∀ W : World, (Instr.slice 25 (.slice a m cap) (some (.int .i64 (4 + (n : Int)))) none none).run Tryz.prog W = .ok (.slice Aq mq cq) W := fun W => by
              have := sl22l a m cap (4 + n) (by omega) W
              rw [HAq.out, HCq.out, HMq.out, show ((4 + n : Nat) : Int) = 4 + (n : Int) by omega] at this
              exact this
            go_wp2_with fail
            have HBd : Hid (Below w.heap.size w w1.drew) := hid (Below.drewR HB1.out)
            refine wp_region_held_drew (S := fun _ => True) (by kernel_rfl) trivial (fun hHeld => ?_)
            generalize w1.drew = wd at HBd ⊢
            refine takeL (i := 0) (v := ?_) rfl (by kernel_rfl) (by kernel_rfl) (by kernel_rfl) (fun _ _ _ h => h) (Or.inl ⟨by rfl, ?_⟩) hHeld ?_
            rotate_left
            · rintro w' _; go_simp; rfl
            try simp only [Act.put, List.setIfInBounds_toArray, List.set_cons_zero, List.set_cons_succ]
            refine takeL (i := 1) (v := ?_) rfl (by kernel_rfl) (by kernel_rfl) (by kernel_rfl) (fun _ _ _ h => h) (Or.inl ⟨by rfl, ?_⟩) hHeld ?_
            rotate_left
            · rintro w' _; go_simp; rfl
            try simp only [Act.put, List.setIfInBounds_toArray, List.set_cons_zero, List.set_cons_succ]
            refine takeL (i := 2) (v := .int .i64 (4 + (n : Int))) rfl (by kernel_rfl) (by kernel_rfl) (by kernel_rfl) (fun _ _ _ h => h) (Or.inl ⟨by rfl, ?_⟩) hHeld ?_
            · rintro w' _; go_simp; try rfl
            try simp only [Act.put, List.setIfInBounds_toArray, List.set_cons_zero, List.set_cons_succ]
            refine takeL (i := 3) (v := .slice A4 n c4) rfl (by kernel_rfl) (by kernel_rfl) (by kernel_rfl) (fun _ _ _ h => h) (Or.inl ⟨by rfl, ?_⟩) hHeld ?_
            · rintro w' _; go_simp; try rfl
            try simp only [Act.put, List.setIfInBounds_toArray, List.set_cons_zero, List.set_cons_succ]
            refine takeL (i := 4) (v := ?_) rfl (by kernel_rfl) (by kernel_rfl) (by kernel_rfl) (fun _ _ _ h => h) (Or.inl ⟨by rfl, ?_⟩) hHeld ?_
            rotate_left
            · rintro w' _; go_simp; rfl
            try simp only [Act.put, List.setIfInBounds_toArray, List.set_cons_zero, List.set_cons_succ]
            refine takeL (i := 5) (v := ?_) rfl (by kernel_rfl) (by kernel_rfl) (by kernel_rfl) (fun _ _ _ h => h) (Or.inl ⟨by rfl, ?_⟩) hHeld ?_
            rotate_left
            · rintro w' _; go_simp; rfl
            try simp only [Act.put, List.setIfInBounds_toArray, List.set_cons_zero, List.set_cons_succ]
            refine takeL (i := 6) (v := .int .i64 (4 + (n : Int))) rfl (by kernel_rfl) (by kernel_rfl) (by kernel_rfl) (fun _ _ _ h => h) (Or.inl ⟨by rfl, ?_⟩) hHeld ?_
            · rintro w' _; go_simp; try rfl
            try simp only [Act.put, List.setIfInBounds_toArray, List.set_cons_zero, List.set_cons_succ]
            refine takeL (i := 7) (v := .slice Aq mq cq) rfl (by kernel_rfl) (by kernel_rfl) (by kernel_rfl) (fun _ _ _ h => h) (Or.inl ⟨by rfl, ?_⟩) hHeld ?_
            · rintro w' _; go_simp; try rfl
            try simp only [Act.put, List.setIfInBounds_toArray, List.set_cons_zero, List.set_cons_succ]
            refine takeL (i := 8) (v := ?_) rfl (by kernel_rfl) (by kernel_rfl) (by kernel_rfl) (fun _ _ _ h => h) (Or.inl ⟨by rfl, ?_⟩) hHeld ?_
            rotate_left
            · rintro w' _; go_simp; rfl
            try simp only [Act.put, List.setIfInBounds_toArray, List.set_cons_zero, List.set_cons_succ]
            refine takeL (i := 9) (v := ?_) rfl (by kernel_rfl) (by kernel_rfl) (by kernel_rfl) (fun _ _ _ h => h) (Or.inl ⟨by rfl, ?_⟩) hHeld ?_
            rotate_left
            · rintro w' _; go_simp; rfl
            try simp only [Act.put, List.setIfInBounds_toArray, List.set_cons_zero, List.set_cons_succ]
            refine takeL (i := 10) (v := ?_) rfl (by kernel_rfl) (by kernel_rfl) (by kernel_rfl) (fun _ _ _ h => h) (Or.inl ⟨by rfl, ?_⟩) hHeld ?_
            rotate_left
            · rintro w' _; go_simp; rfl
            try simp only [Act.put, List.setIfInBounds_toArray, List.set_cons_zero, List.set_cons_succ]
            refine wpAnyH_done (by kernel_rfl) ?_ _
            clear hHeld
            go_wp2
            refine bodyPost_ret (results_tmp3 Tryz.results84 _ _ _) rfl ?_
            refine ⟨HBd.out, .inl ⟨n, HF.out, ?_⟩⟩
            rw [HA4.out, HC4.out, HAq.out, HCq.out, HM.out, HMq.out]
            rfl
        · have hbq : (S.toList == Z.toList) = false := bne_txt HS.out HZ.out heq
          have hb48 : (S.toList == [48, 48, 48, 48]) = false := by have ht : t ≠ [48, 48, 48, 48] := (fun h => heq (by rw [h, HN0.out]; rfl))
                                                                   rw [← HS.out]; simp [ht]
          have HNO2 : Hid (∀ j, j < n + 1 → t ≠ szT j) := hid (fun j hj => by
            by_cases h : j = n
            · rw [h]; exact heq
            · exact HNO.out j (by omega))
          clear heq
          go_wp2
          go_roundg (1001 - (n + 1))
          case measure => omega
          case rel => exact ⟨n + 1, by go_num, by omega, rfl, HB1, HNO2⟩
      · have hz0 : ((n : Int) == 0) = false := by simp [hz]
        obtain ⟨Z, HZ⟩ : ∃ Z : ByteArray, Hid (⟨(szT n).toArray⟩ = Z) := ⟨_, rfl⟩
        have hZ0 : Y = Z := by rw [← HZ.out, ← HY.out]; unfold szT; rw [if_neg hz]
        rw [hZ0] at C18
        have HZ0 := hid hZ0
        clear hZ0 hz
        go_wp2_with fail
        refine C18.out.mono ?_
        rintro e w1 ⟨rfl, hb1⟩
        have HB1 : Hid (Below w.heap.size w w1) := hid (HBW.out.trans (hb1.mono HBW.out.size))
        have hcv := HCV.out w1 HB1.out
        clear hb1
        by_cases heq : t = szT n
        · have hbq : (S.toList == Z.toList) = true := by rw [← HZ.out, ← HS.out, heq]; simp
          have HONE : Hid (∀ j, Fst s j → j = n) := hid (fun j h => szT_inj h.1 (by omega) (by rw [← h.2.2, HT.out, heq]))
          have HEQ := hid heq
          clear heq
          by_cases hsm : m < 4 + n
          · have hsmi : (m : Int) < 4 + (n : Int) := by omega
            have HN : Hid (¬ ∃ n, Fst s n) := hid (by
              rintro ⟨j, h⟩
              have h1 := HONE.out j h
              have h2 := h.2.1
              rw [HM.out] at h2
              omega)
            go_wp2
            refine bodyPost_ret (results_tmp3 Tryz.results84 _ _ _) rfl ?_
            exact ⟨HB1.out, .inr ⟨HN.out, by rw [HM.out]; rfl⟩⟩
          · have hsmi : ¬ (m : Int) < 4 + (n : Int) := by omega
            have hwr : IntKind.i64.wrap (4 + (n : Int)) = 4 + (n : Int) := by rw [IntKind.wrap_i64]; omega
            have HF : Hid (Fst s n) := hid ⟨by omega, by rw [HM.out]; omega, by rw [HT.out, HEQ.out]⟩
            obtain ⟨A4, HA4⟩ : ∃ x, Hid (adX 1 a cap 4 = x) := ⟨_, rfl⟩
            obtain ⟨c4, HC4⟩ : ∃ x, Hid (cap - 4 = x) := ⟨_, rfl⟩
            obtain ⟨Aq, HAq⟩ : ∃ x, Hid (adX 1 a cap (4 + n) = x) := ⟨_, rfl⟩
            obtain ⟨cq, HCq⟩ : ∃ x, Hid (cap - (4 + n) = x) := ⟨_, rfl⟩
            obtain ⟨mq, HMq⟩ : ∃ x, Hid (m - (4 + n) = x) := ⟨_, rfl⟩
            have hsl : ∀ W : World, (Instr.slice 25 (.slice a m cap) (some (.int .i64 4)) (some (.int .i64 (4 + (n : Int)))) none).run Tryz.prog W = .ok (.slice A4 n c4) W := fun W => by
              have := sl22 a m cap 4 (4 + n) (4 + (n : Int)) (by omega) (by omega) (by omega) W
              rw [HA4.out, HC4.out, show 4 + n - 4 = n by omega] at this
              exact this
            have hslq : ∀ W : World, (Instr.slice 25 (.slice a m cap) (some (.int .i64 (4 + (n : Int)))) none none).run Tryz.prog W = .ok (.slice Aq mq cq) W := fun W => by
              have := sl22l a m cap (4 + n) (by omega) W
              rw [HAq.out, HCq.out, HMq.out, show ((4 + n : Nat) : Int) = 4 + (n : Int) by omega] at this
              exact this
            go_wp2_with fail
            have HBd : Hid (Below w.heap.size w w1.drew) := hid (Below.drewR HB1.out)
            refine wp_region_held_drew (S := fun _ => True) (by kernel_rfl) trivial (fun hHeld => ?_)
            generalize w1.drew = wd at HBd ⊢
            refine takeL (i := 0) (v := ?_) rfl (by kernel_rfl) (by kernel_rfl) (by kernel_rfl) (fun _ _ _ h => h) (Or.inl ⟨by rfl, ?_⟩) hHeld ?_
            rotate_left
            · rintro w' _; go_simp; rfl
            try simp only [Act.put, List.setIfInBounds_toArray, List.set_cons_zero, List.set_cons_succ]
            refine takeL (i := 1) (v := ?_) rfl (by kernel_rfl) (by kernel_rfl) (by kernel_rfl) (fun _ _ _ h => h) (Or.inl ⟨by rfl, ?_⟩) hHeld ?_
            rotate_left
            · rintro w' _; go_simp; rfl
            try simp only [Act.put, List.setIfInBounds_toArray, List.set_cons_zero, List.set_cons_succ]
            refine takeL (i := 2) (v := .int .i64 (4 + (n : Int))) rfl (by kernel_rfl) (by kernel_rfl) (by kernel_rfl) (fun _ _ _ h => h) (Or.inl ⟨by rfl, ?_⟩) hHeld ?_
            · rintro w' _; go_simp; try rfl
            try simp only [Act.put, List.setIfInBounds_toArray, List.set_cons_zero, List.set_cons_succ]
            refine takeL (i := 3) (v := .slice A4 n c4) rfl (by kernel_rfl) (by kernel_rfl) (by kernel_rfl) (fun _ _ _ h => h) (Or.inl ⟨by rfl, ?_⟩) hHeld ?_
            · rintro w' _; go_simp; try rfl
            try simp only [Act.put, List.setIfInBounds_toArray, List.set_cons_zero, List.set_cons_succ]
            refine takeL (i := 4) (v := ?_) rfl (by kernel_rfl) (by kernel_rfl) (by kernel_rfl) (fun _ _ _ h => h) (Or.inl ⟨by rfl, ?_⟩) hHeld ?_
            rotate_left
            · rintro w' _; go_simp; rfl
            try simp only [Act.put, List.setIfInBounds_toArray, List.set_cons_zero, List.set_cons_succ]
            refine takeL (i := 5) (v := ?_) rfl (by kernel_rfl) (by kernel_rfl) (by kernel_rfl) (fun _ _ _ h => h) (Or.inl ⟨by rfl, ?_⟩) hHeld ?_
            rotate_left
            · rintro w' _; go_simp; rfl
            try simp only [Act.put, List.setIfInBounds_toArray, List.set_cons_zero, List.set_cons_succ]
            refine takeL (i := 6) (v := .int .i64 (4 + (n : Int))) rfl (by kernel_rfl) (by kernel_rfl) (by kernel_rfl) (fun _ _ _ h => h) (Or.inl ⟨by rfl, ?_⟩) hHeld ?_
            · rintro w' _; go_simp; try rfl
            try simp only [Act.put, List.setIfInBounds_toArray, List.set_cons_zero, List.set_cons_succ]
            refine takeL (i := 7) (v := .slice Aq mq cq) rfl (by kernel_rfl) (by kernel_rfl) (by kernel_rfl) (fun _ _ _ h => h) (Or.inl ⟨by rfl, ?_⟩) hHeld ?_
            · rintro w' _; go_simp; try rfl
            try simp only [Act.put, List.setIfInBounds_toArray, List.set_cons_zero, List.set_cons_succ]
            refine takeL (i := 8) (v := ?_) rfl (by kernel_rfl) (by kernel_rfl) (by kernel_rfl) (fun _ _ _ h => h) (Or.inl ⟨by rfl, ?_⟩) hHeld ?_
            rotate_left
            · rintro w' _; go_simp; rfl
            try simp only [Act.put, List.setIfInBounds_toArray, List.set_cons_zero, List.set_cons_succ]
            refine takeL (i := 9) (v := ?_) rfl (by kernel_rfl) (by kernel_rfl) (by kernel_rfl) (fun _ _ _ h => h) (Or.inl ⟨by rfl, ?_⟩) hHeld ?_
            rotate_left
            · rintro w' _; go_simp; rfl
            try simp only [Act.put, List.setIfInBounds_toArray, List.set_cons_zero, List.set_cons_succ]
            refine takeL (i := 10) (v := ?_) rfl (by kernel_rfl) (by kernel_rfl) (by kernel_rfl) (fun _ _ _ h => h) (Or.inl ⟨by rfl, ?_⟩) hHeld ?_
            rotate_left
            · rintro w' _; go_simp; rfl
            try simp only [Act.put, List.setIfInBounds_toArray, List.set_cons_zero, List.set_cons_succ]
            refine wpAnyH_done (by kernel_rfl) ?_ _
            clear hHeld
            go_wp2
            refine bodyPost_ret (results_tmp3 Tryz.results84 _ _ _) rfl ?_
            refine ⟨HBd.out, .inl ⟨n, HF.out, ?_⟩⟩
            rw [HA4.out, HC4.out, HAq.out, HCq.out, HM.out, HMq.out]
            rfl
        · have hbq : (S.toList == Z.toList) = false := bne_txt HS.out HZ.out heq
          have HNO2 : Hid (∀ j, j < n + 1 → t ≠ szT j) := hid (fun j hj => by
            by_cases h : j = n
            · rw [h]; exact heq
            · exact HNO.out j (by omega))
          clear heq
          go_wp2
          go_roundg (1001 - (n + 1))
          case measure => omega
          case rel => exact ⟨n + 1, by go_num, by omega, rfl, HB1, HNO2⟩
    · have hlti : ¬ (n : Int) ≤ 1000 := by omega
      have HN : Hid (¬ ∃ n, Fst s n) := hid (by
        rintro ⟨j, h⟩
        exact HNO.out j (by have := h.1; omega) (by rw [← HT.out, h.2.2]))
      go_wp2
      refine bodyPost_ret (results_tmp3 Tryz.results84 _ _ _) rfl ?_
      exact ⟨HBW.out, .inr ⟨HN.out, by rw [HM.out]; rfl⟩⟩
end Go.Proofs.YtijeogdnjeamaaaGreatDoor
namespace Go.Proofs.YtijeogdnjeamaaaGreatDoor
open Go.RowKit
set_option linter.unusedVariables false
set_option linter.unusedSimpArgs false
theorem sV_out (s : Str) : sV s = .string ⟨s.toArray⟩ := rfl
theorem beq_txt {x y : Str} {X Y : ByteArray} (hX : (⟨x.toArray⟩ : ByteArray) = X) (hY : (⟨y.toArray⟩ : ByteArray) = Y) : (X.toList == Y.toList) = (x == y) := by
  rw [← hX, ← hY]
  simp
theorem hasSuf (s p : Str) (hl : s.length ≤ 1000000) (w : World) : Calls Tryz.prog 92 #[sV s, sV p] w fun e w' => e = .returned (.bool (decide (p.length ≤ s.length) && (s.drop (s.length - p.length) == p))) ∧ w' = w := by
  rw [sV_out, sV_out]
  obtain ⟨S, HS⟩ : ∃ S : ByteArray, Hid (⟨s.toArray⟩ = S) := ⟨_, hid rfl⟩
  obtain ⟨T, HT⟩ : ∃ S : ByteArray, Hid (⟨p.toArray⟩ = S) := ⟨_, hid rfl⟩
  obtain ⟨n, HN⟩ : ∃ n, Hid (s.length = n) := ⟨_, rfl⟩
  obtain ⟨m, HM⟩ : ∃ n, Hid (p.length = n) := ⟨_, rfl⟩
  have hsz : S.size = n := by rw [← HS.out, txt_len]; exact HN.out
  have hpz : T.size = m := by rw [← HT.out, txt_len]; exact HM.out
  rw [HN.out] at hl
  rw [HN.out, HM.out]
  obtain ⟨bb, HBB⟩ : ∃ bb, Hid ((s.drop (n - m) == p) = bb) := ⟨_, rfl⟩
  by_cases hle : m ≤ n
  · have hli : (m : Int) ≤ (n : Int) := by omega
    obtain ⟨d, HD⟩ : ∃ d, Hid (n - m = d) := ⟨_, rfl⟩
    have hdi : (n : Int) - (m : Int) = (d : Int) := by rw [← HD.out]; omega
    have hdn : d ≤ n := by rw [← HD.out]; omega
    obtain ⟨R, HR⟩ : ∃ S : ByteArray, Hid (⟨(s.drop d).toArray⟩ = S) := ⟨_, hid rfl⟩
    have hsl : ∀ w1 : World, (Instr.slice 9 (.string S) (some (.int .i64 d)) none none).run Tryz.prog w1 = .ok (.string R) w1 := fun w1 => by rw [← HS.out, ← HR.out]; exact slc_from s d (by rw [HN.out]; exact hdn) w1
    have hq : (R.toList == T.toList) = bb := by rw [beq_txt HR.out HT.out, ← HBB.out, HD.out]
    have hdc : decide (m ≤ n) = true := by simp [hle]
    rw [HS.out, HT.out, HBB.out, hdc, Bool.true_and]
    clear hdc
    go_enter Tryz.func92, Tryz.ntmps92
    go_wp2
    go_ret
    exact ⟨by rw [← hq]; rfl, rfl⟩
  · have hli : ¬ (m : Int) ≤ (n : Int) := by omega
    have hdc : decide (m ≤ n) = false := by simp [hle]
    rw [HS.out, HT.out, hdc, Bool.false_and]
    clear hdc
    go_enter Tryz.func92, Tryz.ntmps92
    go_wp2
    go_ret
    exact ⟨rfl, rfl⟩
def trS (p s : Str) : Str := if p.length ≤ s.length ∧ s.drop (s.length - p.length) = p then s.take (s.length - p.length) else s
theorem trimSuf_in (s p : Str) (hl : s.length ≤ 1000000) (w : World) : Calls Tryz.prog 142 #[sV s, sV p] w fun e w' => e = .returned (sV (trS p s)) ∧ w' = w := by
  have HF := hid (hasSuf s p hl w)
  rw [sV_out, sV_out] at HF
  rw [sV_out, sV_out, sV_out]
  obtain ⟨S, HS⟩ : ∃ S : ByteArray, Hid (⟨s.toArray⟩ = S) := ⟨_, hid rfl⟩
  obtain ⟨T, HT⟩ : ∃ S : ByteArray, Hid (⟨p.toArray⟩ = S) := ⟨_, hid rfl⟩
  obtain ⟨n, HN⟩ : ∃ n, Hid (s.length = n) := ⟨_, rfl⟩
  obtain ⟨m, HM⟩ : ∃ n, Hid (p.length = n) := ⟨_, rfl⟩
  have hsz : S.size = n := by rw [← HS.out, txt_len]; exact HN.out
  have hpz : T.size = m := by rw [← HT.out, txt_len]; exact HM.out
  rw [HN.out] at hl
  by_cases hp : p.length ≤ s.length ∧ s.drop (s.length - p.length) = p
  · have hb : (decide (p.length ≤ s.length) && (s.drop (s.length - p.length) == p)) = true := by simp [hp.1, hp.2]
    obtain ⟨d, HD⟩ : ∃ d, Hid (n - m = d) := ⟨_, rfl⟩
    have hmn : m ≤ n := by have := hp.1; rw [HN.out, HM.out] at this; exact this
    have hdi : (n : Int) - (m : Int) = (d : Int) := by rw [← HD.out]; omega
    have hdn : d ≤ n := by rw [← HD.out]; omega
    obtain ⟨R, HR⟩ : ∃ S : ByteArray, Hid (⟨(trS p s).toArray⟩ = S) := ⟨_, hid rfl⟩
    have hsl : ∀ w1 : World, (Instr.slice 9 (.string S) none (some (.int .i64 d)) none).run Tryz.prog w1 = .ok (.string R) w1 := fun w1 => by
      rw [← HS.out, ← HR.out, trS, if_pos hp, HM.out, HN.out, HD.out]; exact slc_to s d (by rw [HN.out]; exact hdn) w1
    rw [HS.out, HT.out, hb] at HF
    rw [HS.out, HT.out, HR.out]
    clear hp hb
    go_enter Tryz.func142, Tryz.ntmps142
    go_wp2_with fail
    refine HF.out.mono ?_
    rintro e w1 ⟨rfl, hw⟩
    rw [hw]
    go_wp2
    go_ret
    exact ⟨rfl, rfl⟩
  · have hb : (decide (p.length ≤ s.length) && (s.drop (s.length - p.length) == p)) = false := by
      by_cases h1 : p.length ≤ s.length
      · have h2 : ¬ s.drop (s.length - p.length) = p := fun h => hp ⟨h1, h⟩
        simp [h2]
      · simp [h1]
    have ht : trS p s = s := by rw [trS, if_neg hp]
    rw [HS.out, HT.out, hb] at HF
    rw [ht, HS.out, HT.out]
    clear hp hb ht
    go_enter Tryz.func142, Tryz.ntmps142
    go_wp2_with fail
    refine HF.out.mono ?_
    rintro e w1 ⟨rfl, hw⟩
    rw [hw]
    go_wp2
    go_ret
    exact ⟨rfl, rfl⟩
theorem trimSuf (s p : Str) (hl : s.length ≤ 1000000) (w : World) : Calls Tryz.prog 120 #[sV s, sV p] w fun e w' => e = .returned (sV (trS p s)) ∧ w' = w := by
  have HF := hid (trimSuf_in s p hl w)
  obtain ⟨S, HS⟩ : ∃ S, Hid (sV s = S) := ⟨_, hid rfl⟩
  obtain ⟨T, HT⟩ : ∃ S, Hid (sV p = S) := ⟨_, hid rfl⟩
  obtain ⟨R, HR⟩ : ∃ S, Hid (sV (trS p s) = S) := ⟨_, hid rfl⟩
  rw [HS.out, HT.out, HR.out] at HF
  rw [HS.out, HT.out, HR.out]
  go_enter Tryz.func120, Tryz.ntmps120
  go_wp2_with fail
  refine HF.out.mono ?_
  rintro e w1 ⟨rfl, hw⟩
  rw [hw]
  go_wp2
  go_ret
  exact ⟨rfl, rfl⟩
end Go.Proofs.YtijeogdnjeamaaaGreatDoor
namespace Go.Proofs.YtijeogdnjeamaaaGreatDoor
open Go.RowKit
set_option linter.unusedVariables false
set_option linter.unusedSimpArgs false
theorem own_mk {w : World} {B : Nat} {v : Value} {s : Str} (h : w.ownsRow B 5 1 v s.length (bv s)) : (v = .slice none 0 0 ∧ s = []) ∨ ∃ g cap, v = .slice (some ⟨g, 0, none⟩) s.length cap ∧ B ≤ g ∧ Mk w g cap s := by
  obtain ⟨hl, ⟨hv, e0⟩ | ⟨g, cap, cur, hv, hb, hh, hkc, hcm, hsz, htk⟩⟩ := h
  · exact .inl ⟨hv, List.length_eq_zero_iff.1 e0⟩
  · refine .inr ⟨g, cap, hv, hb, ⟨lt_of_some hh, hkc, fun j u hj => ?_, fun i h1 h2 => ⟨?_, ?_⟩⟩⟩
    · rw [cell_of_row w g j _ _ _ hh]
      rw [← htk] at hj
      have hlt := (List.getElem?_eq_some_iff.1 hj).1
      rw [List.length_take] at hlt
      rw [List.getElem?_take_of_lt (by omega)] at hj
      simpa using hj
    · rw [cell_of_row w g i _ _ _ hh, Array.getElem?_eq_getElem (by omega)]
      rfl
    · exact frozen_of_row w g i _ _ hh
structure AP (g : Nat) (hs : List Value) (ls : List Str) (W : World) : Prop where
  lt : g < W.heap.size
  row : ∀ i, i < ls.length → W.cell? ⟨g, i, none⟩ = some (hs.getD i undef)
  each : ∀ i, i < ls.length → ∃ a c, hs.getD i undef = .slice a (ls.getD i []).length c ∧ PB W a c (ls.getD i [])
theorem AP.below {g : Nat} {hs : List Value} {ls : List Str} {W W' : World} (h : AP g hs ls W) (hb : Below W.heap.size W W') : AP g hs ls W' :=
  ⟨Nat.lt_of_lt_of_le h.lt hb.size, fun i hi => (hb.cell (p := ⟨g, i, none⟩) h.lt).trans (h.row i hi), fun i hi => by
    obtain ⟨a, c, h1, h2⟩ := h.each i hi
    exact ⟨a, c, h1, h2.below hb⟩⟩
theorem ll_row {w W : World} {B : Nat} {v : Value} {hs : List Value} {ls : List Str} (h : LL w W B v hs ls) : ∃ a cap, v = .slice a ls.length cap ∧ (0 < ls.length → ∃ g, a = some ⟨g, 0, none⟩ ∧ v.ownBlock = some g ∧ B ≤ g ∧ g < W.heap.size ∧ ∀ i, i < ls.length → W.cell? ⟨g, i, none⟩ = some (hs.getD i undef)) := by
  have hr := h.row
  rw [h.len] at hr
  obtain ⟨hl, ⟨hv, h0⟩ | ⟨g, cap, cur, hv, hb, hh, hkc, hcm, hsz, htk⟩⟩ := hr
  · exact ⟨none, 0, by rw [hv, h0], fun h => by omega⟩
  · refine ⟨_, cap, hv, fun h1 => ⟨g, rfl, by rw [hv]; rfl, hb, lt_of_some hh, fun i hi => ?_⟩⟩
    rw [cell_of_row W g i _ _ _ hh]
    have hj : hs[i]? = some (hs.getD i undef) := by
      rw [List.getD_eq_getElem?_getD, List.getElem?_eq_getElem (by rw [h.len]; exact hi)]; rfl
    rw [← htk] at hj
    rw [List.getElem?_take_of_lt (by omega)] at hj
    rw [← htk]
    simpa using hj
theorem ap_mv {w w3 W : World} {B : Nat} {v : Value} {hs : List Value} {ls : List Str} (h : LL w w3 B v hs ls) (hsz : w3.heap.size ≤ W.heap.size) (g : Nat) (hg : v.ownBlock = some g) (h0 : 0 < ls.length) (hrow : W.heap[g]? = w3.heap[g]?) (hc : ∀ j, j < ls.length → ∀ k, (hs.getD j undef).ownBlock = some k → ∀ q, q < (ls.getD j []).length → W.cell? ⟨k, q, none⟩ = w3.cell? ⟨k, q, none⟩) : AP g hs ls W := by
  obtain ⟨a, cap, hv, hr⟩ := ll_row h
  obtain ⟨g', ha, hob, hBg, hlt, hcell⟩ := hr h0
  rw [hob] at hg
  cases hg
  refine ⟨Nat.lt_of_lt_of_le hlt hsz, fun i hi => ?_, fun i hi => ?_⟩
  · rw [World.cell?_of_block (a := ⟨g, i, none⟩) hrow]
    exact hcell i hi
  · rcases own_mk (h.each i hi) with ⟨hv, hs0⟩ | ⟨g, cap, hv, hBg, hm⟩
    · exact ⟨none, 0, by rw [hv, hs0]; rfl, by rw [hs0]; exact pb_none W⟩
    · refine ⟨some ⟨g, 0, none⟩, cap, hv, hm.capl, fun hp => ⟨g, 0, rfl, Nat.lt_of_lt_of_le hm.lt hsz, fun q hq j u hu => ?_⟩, fun e => by cases e⟩
      have hj : j = 0 := by
        have := (List.getElem?_eq_some_iff.1 hu).1
        simp [encB] at this
        exact this
      subst hj
      have h1 := hm.pb
      have h2 := h1.cell q hq
      have h3 := hc i hi g (by rw [hv]; rfl) q hq
      simp [encB] at hu
      rw [show 0 + q * 1 + 0 = q by omega, h3, ← hu]
      rw [Nat.zero_add] at h2
      simpa using h2
end Go.Proofs.YtijeogdnjeamaaaGreatDoor
namespace Go.Proofs.YtijeogdnjeamaaaGreatDoor
open Go.RowKit
set_option linter.unusedVariables false
set_option linter.unusedSimpArgs false
def encS (s : Str) : List Value := [sV s]
abbrev PS (w : World) (a : Option Addr) (cap : Nat) (l : List Str) : Prop := Px encS 1 ([] : Str) w a cap l
abbrev BS (w0 w : World) (B : Nat) (v : Value) (l : List Str) : Prop := Bx encS 1 9 w0 w B v l
theorem info9 : (Tryz.prog.info? 9).map (fun i => (i.zero, i.size, i.bytes)) = some (some (.string ⟨#[]⟩), 1, 16) := by kernel_rfl
theorem und63s : Tryz.prog.underlying 63 = some (.slice 9) := by kernel_rfl
theorem run_txt (u : ByteArray) (w : World) : (Instr.buildSlice 63 1 #[(0, .string u)]).run Tryz.prog w = .ok (.slice (some ⟨w.heap.size, 0, none⟩) 1 1) (w.alloc (.cells #[.string u] 9)) := by
  obtain ⟨i, hq, hz, hs, _⟩ := info_parts info9
  refine run_buildSlice w 63 9 1 _ #[.string u] i _ und63s hq hz (by rw [hs]; decide) (by rw [hs]; decide) ?_
  rw [hs]
  have hr : Array.range 1 = #[0] := rfl
  simp [Instr.fill, hr, Value.cells]
theorem BS.more {w0 W : World} {B : Nat} {v : Value} {l : List Str} (h : BS w0 W B v l) (hn : l.length ≤ 20000) (s : Str) (u : ByteArray) (hu : ⟨s.toArray⟩ = u) (ty : TypeId) :
    ∃ v' W', (Builtin.append_ #[63, 63] ty #[v, .slice (some ⟨W.heap.size, 0, none⟩) 1 1]).run Tryz.prog (W.alloc (.cells #[.string u] 9)) = .ok v' W' ∧ BS w0 W' B v' (l ++ [s]) := by
  obtain ⟨i, hi, hz0, hz1, hz2⟩ := info_parts info9
  have h' := h.alloc (.cells #[.string u] 9)
  obtain ⟨v', W', hr, h1, h2, _⟩ := run_append_own_at (P := Tryz.prog) (W.alloc (.cells #[.string u] 9)) B 63 ty 9 i _ 1 16 und63s hi hz0 hz1 hz2 rfl (by decide) v _ _ h'.own ⟨W.heap.size, 0, none⟩ 1 1 [sV s] rfl (fun j x hj => by
    cases j with
    | zero =>
      cases hj
      rw [addr_add]
      have := cell_of_row (W.alloc (.cells #[.string u] 9)) W.heap.size 0 _ 9 (0, 0) (heap_alloc_new W _)
      rw [Nat.zero_add, this, ← hu]
      rfl
    | succ j => simp at hj) (fun x hx => by rw [List.mem_singleton.1 hx]; rfl) (by unfold maxLen; omega) (by omega) h'.le
  refine ⟨v', W', hr, h'.below.grown h2 h'.le (fun k hk => (own_lt h'.own k hk).1), ?_, Nat.le_trans h'.le h2.size⟩
  rw [List.length_append, List.flatMap_append]
  exact h1
theorem bs_nil (w : World) (B : Nat) (h : B = w.heap.size) : BS w w B (.slice none 0 0) [] := ⟨Below.refl _ _, ⟨rfl, .inl ⟨rfl, rfl⟩⟩, by omega⟩
abbrev noEnd (s : Str) : Str := trS [10] s
theorem Tryz.results99 : Tryz.f99.results = #[.tmp 2, .tmp 3] := by kernel_rfl
def PostT (s : Str) (w : World) (e : Ending) (w' : World) : Prop :=
  Below w.heap.size w w' ∧ ((∃ ls, okL ls ∧ s = pktL ls ∧ ∃ v, e = .returned (.tuple #[v, .nilIface]) ∧ BS w w' w.heap.size v (ls.map noEnd)) ∨ ((¬ ∃ ls, okL ls ∧ s = pktL ls) ∧ e = .returned (.tuple #[.slice none 0 0, .iface 37 (.int .i64 110)])))
theorem pktL_cnt : ∀ ls : List Str, 4 * ls.length ≤ (pktL ls).length
  | [] => by simp
  | x :: ls => by
    have := pktL_cnt ls
    show 4 * (ls.length + 1) ≤ (pkt x ++ pktL ls).length
    rw [List.length_append, pkt_len]
    omega
set_option maxRecDepth 20000 in
set_option maxHeartbeats 4000000 in
theorem readTexts_any {w : World} (a : Option Addr) (cap : Nat) (s : Str) (hP : PB w a cap s) (hl : s.length ≤ 60000) (he : Ers w) (hd : Db w) : Calls Tryz.prog 99 #[.slice a s.length cap] w (PostT s w) := by
  obtain ⟨m, HM⟩ : ∃ m, Hid (s.length = m) := ⟨_, rfl⟩
  obtain ⟨G, HG⟩ : ∃ g, Hid (w.heap.size = g) := ⟨_, rfl⟩
  have C1 : Hid (Calls Tryz.prog 119 #[.slice a m cap] w (PostL s w)) := hid (by
    have := lines_any a cap s hP (by omega) he hd
    rw [HM.out] at this
    exact this)
  have HL := hid hl
  rw [HM.out]
  clear hP hl he hd
  go_enter Tryz.func99, Tryz.ntmps99
  go_wp2_with fail
  refine C1.out.mono ?_
  rintro e w1 ⟨hb1, ⟨ls, hok, hs, v, hs2, rfl, hll⟩ | ⟨hno, rfl⟩⟩
  · obtain ⟨al, cl, hvl, hrow⟩ := ll_row hll
    obtain ⟨k, HK⟩ : ∃ k, Hid (ls.length = k) := ⟨_, rfl⟩
    rw [HK.out] at hvl hrow
    subst hvl
    have HOK := hid hok
    have HS := hid hs
    have HB1 := hid hb1
    have hkb : k ≤ 15000 := by
      have h1 := pktL_cnt ls
      rw [← HS.out, HK.out] at h1
      have := HL.out
      omega
    obtain ⟨B, HBB⟩ : ∃ B, Hid (w1.heap.size = B) := ⟨_, rfl⟩
    have HAL : Hid (0 < k → ∃ g, al = some ⟨g, 0, none⟩ ∧ AP g hs2 ls w1) := hid (fun h0 => by
      obtain ⟨g, h1, h2, _⟩ := hrow h0
      exact ⟨g, h1, ap_mv hll (Nat.le_refl _) g h2 (by rw [HK.out]; exact h0) rfl (fun _ _ _ _ _ _ => rfl)⟩)
    have S0 : Hid (BS w1 w1 B (.slice none 0 0) ((ls.take 0).map noEnd)) := hid (bs_nil w1 B HBB.out.symm)
    clear hok hs hb1 hll hrow
    go_wp2_with fail
    go_loopg [6, 19] k (fun gg ov iv wr => ∃ i : Nat, iv = .int .i64 i ∧ i ≤ k ∧ gg = k - i ∧ Hid (BS w1 wr B ov ((ls.take i).map noEnd)))
    case atStart => exact ⟨0, rfl, Nat.zero_le _, rfl, S0⟩
    case round =>
      obtain ⟨i, rfl, hi, hk, HO⟩ := hrel
      by_cases hlt : i < k
      · have hlti : (i : Int) < (k : Int) := by omega
        obtain ⟨g, rfl, hA⟩ := HAL.out (by omega)
        have hil : i < ls.length := by rw [HK.out]; exact hlt
        have hA2 := hA.below (W' := wr) (by rw [HBB.out]; exact HO.out.below)
        obtain ⟨x, HX⟩ : ∃ x, Hid (ls.getD i [] = x) := ⟨_, rfl⟩
        obtain ⟨q, HQ⟩ : ∃ q, Hid (x.length = q) := ⟨_, rfl⟩
        obtain ⟨xa, xc, hx, hpx⟩ := hA2.each i hil
        rw [HX.out] at hx hpx
        rw [HQ.out] at hx
        have kc : wr.cell? ⟨g, i, none⟩ = some (.slice xa q xc) := by rw [hA2.row i hil, hx]
        obtain ⟨X, HXb⟩ : ∃ X : ByteArray, Hid (⟨x.toArray⟩ = X) := ⟨_, hid rfl⟩
        have hcv : (convert 25 9 (.slice xa q xc)).run Tryz.prog wr = .ok (.string X) wr := by
          have := conv_str hpx
          rw [HQ.out, sV_out, HXb.out] at this
          exact this
        have HXL : Hid (x.length ≤ 1000) := hid (by rw [← HX.out]; exact HOK.out _ (getD_mem ls i [] hil))
        obtain ⟨Y, HY⟩ : ∃ X : ByteArray, Hid (⟨(noEnd x).toArray⟩ = X) := ⟨_, hid rfl⟩
        have CT : Hid (Calls Tryz.prog 120 #[.string X, .string ⟨#[10]⟩] wr fun e w' => e = .returned (.string Y) ∧ w' = wr) := hid (by
          have := trimSuf x [10] (by have := HXL.out; omega) wr
          rw [sV_out, sV_out, sV_out, HXb.out] at this
          rw [← HY.out]
          exact this)
        have HTK : Hid ((ls.take (i + 1)).map noEnd = (ls.take i).map noEnd ++ [noEnd x]) := hid (by rw [← HX.out, take_snocG [] ls i hil, List.map_append]; rfl)
        have hbs := run_txt Y wr
        obtain ⟨v5, W5, hr5, hb5⟩ := HO.out.more (by rw [List.length_map, List.length_take]; omega) (noEnd x) Y HY.out 63
        obtain ⟨W3, HW3⟩ : ∃ W, Hid (wr.alloc (.cells #[.string Y] 9) = W) := ⟨_, rfl⟩
        rw [HW3.out] at hr5 hbs
        have al3 : wr.alloc (.cells #[.string Y] 9) = W3 := HW3.out
        have HB5 : Hid (BS w1 W5 B v5 ((ls.take (i + 1)).map noEnd)) := hid (by rw [HTK.out]; exact hb5)
        clear hil hA hA2 hx hpx hb5
        go_wp2_with fail
        refine CT.out.mono ?_
        rintro e w2 ⟨rfl, hw⟩
        rw [hw]
        clear hw
        go_wp2_with (first | (refine wpList_bSY rfl 63 1 _ rfl (.string Y) _ rfl hbs ?_) | (at_builtin; refine wpList_app rfl _ _ 63 63 rfl 63 rfl _ _ rfl rfl hr5 ?_) | fail)
        go_roundg (k - (i + 1))
        case measure => omega
        case rel => exact ⟨i + 1, by go_num, by omega, rfl, HB5⟩
      · have hlti : ¬ (i : Int) < (k : Int) := by omega
        have HF : Hid (BS w1 wr B u6 (ls.map noEnd)) := hid (by
          have := HO.out
          rw [List.take_of_length_le (by rw [HK.out]; omega)] at this
          exact this)
        have hGB : G ≤ B := by rw [← HG.out, ← HBB.out]; exact HB1.out.size
        go_wp2
        refine bodyPost_ret (results_tmp2 Tryz.results99 _ _ _) rfl ?_
        have hbw : Below w.heap.size w wr := HB1.out.trans (HF.out.below.mono (by rw [HG.out]; exact hGB))
        exact ⟨hbw, .inl ⟨ls, HOK.out, HS.out, _, rfl, hbw, base_mono HF.out.own (by rw [HG.out]; exact hGB), hbw.size⟩⟩
  · have HNO := hid hno
    have HB1 := hid hb1
    clear hno hb1
    go_wp2
    refine bodyPost_ret (results_tmp2 Tryz.results99 _ _ _) rfl ?_
    exact ⟨HB1.out, .inr ⟨HNO.out, rfl⟩⟩
end Go.Proofs.YtijeogdnjeamaaaGreatDoor
namespace Go.Proofs.YtijeogdnjeamaaaGreatDoor
open Go.RowKit
set_option linter.unusedVariables false
set_option linter.unusedSimpArgs false
theorem pb_grown {w w' : World} {a : Option Addr} {cap : Nat} {s : Str} {row : Option Nat} (h : PB w a cap s) (hne : ∀ p : Addr, a = some p → row ≠ some p.block) (hg : w.grownBy w' row) : PB w' a cap s :=
  ⟨h.capl, fun h0 => by
    obtain ⟨b, off, e1, e2, e3⟩ := h.at_ h0
    refine ⟨b, off, e1, Nat.lt_of_lt_of_le e2 hg.size, fun i hi j v hv => ?_⟩
    rw [World.cell?_of_block (a := ⟨b, off + i * 1 + j, none⟩) (hg.block b e2 (fun e => hne _ e1 e.symm))]
    exact e3 i hi j v hv, h.nil⟩
set_option maxRecDepth 20000 in
theorem appendLine2 {w w0 : World} {B : Nat} {v : Value} {S : Str} (h : Wst B w0 w v S) (hS : S.length ≤ 1000000) (a : Option Addr) (cap : Nat) (s : Str) (hP : PB w a cap s) (hB : ∀ p : Addr, a = some p → v.ownBlock ≠ some p.block) (hl : s.length ≤ 1000) (hd : Db w) : Calls Tryz.prog 59 #[v, .slice a s.length cap] w fun e w' => ∃ v', e = .returned v' ∧ Wst B w0 w' v' (S ++ pkt s) := by
  obtain ⟨n, HN⟩ : ∃ n, Hid (s.length = n) := ⟨_, rfl⟩
  have hn : n ≤ 1000 := by rw [← HN.out]; exact hl
  have C17 : Hid (Calls Tryz.prog 94 #[.slice a n cap] w fun e w' => e = .returned (.string ⟨(szT n).toArray⟩) ∧ Below w.heap.size w w') := hid (sizeOf_any a n cap (by omega) w hd)
  obtain ⟨Z, HZ⟩ : ∃ Z : ByteArray, Hid (⟨(szT n).toArray⟩ = Z) := ⟨_, rfl⟩
  rw [HZ.out] at C17
  have HW := hid h
  have HPB := hid hP
  have HBk := hid hB
  rw [HN.out]
  clear hP hd h
  go_enter Tryz.func59, Tryz.ntmps59
  go_wp2_with fail
  refine C17.out.mono ?_
  rintro e w1 ⟨rfl, hb1⟩
  have hw1 := HW.out.below hb1
  obtain ⟨v2, W2, hr2, ho2, hg2⟩ := own_str hw1.own hw1.le (szT n) (by rw [szT_len]; omega) 25
  rw [HZ.out] at hr2
  have HS2 : Hid (Wst B w0 W2 v2 (S ++ szT n)) := hid (hw1.grown ho2 hg2)
  have hl2 : (S ++ szT n).length ≤ 1000004 := by rw [List.length_append, szT_len]; omega
  have HP2 : Hid (PB W2 a cap s) := hid (pb_grown (HPB.out.below hb1) HBk.out hg2)
  clear hw1 ho2 hg2 hb1
  go_wp2_with (first | (at_builtin; refine wpList_app rfl _ _ 25 9 rfl 25 rfl _ _ rfl rfl hr2 ?_) | (at_builtin; refine wpList_own rfl _ _ rfl B _ (S ++ szT n) rfl HS2.out.own HS2.out.le a cap s (by rw [HN.out]; rfl) HP2.out (by rw [HN.out]; omega) ?_; intro v3 w3 ho3 hg3 hl3) | fail)
  have HS3 : Hid (Wst B w0 w3 v3 (S ++ pkt s)) := hid (by
    have he : S ++ pkt s = (S ++ szT n) ++ s := by unfold pkt; rw [HN.out, List.append_assoc]
    rw [he]; exact HS2.out.grown ho3 hg3)
  clear ho3 hg3 hl3
  go_wp2
  go_ret
  exact ⟨_, rfl, HS3.out⟩
end Go.Proofs.YtijeogdnjeamaaaGreatDoor
