/- The document's 'line' and 'next'. -/
import Derived.Test.YtijeogdnjeamaaaGreatDoorWcA
namespace Go.Proofs.YtijeogdnjeamaaaGreatDoor
open Go.RowKit
set_option linter.unusedVariables false
set_option linter.unusedSimpArgs false
theorem pb_newf (sm : Str) (w : World) (t : TypeId) (fr : Nat × Nat) : PB (w.alloc (.cells (bv sm).toArray t fr)) (some ⟨w.heap.size, 0, none⟩) sm.length sm :=
  ⟨Nat.le_refl _, fun _ => ⟨w.heap.size, 0, rfl, by simp, fun i hi j v hv => by
    have hj : j = 0 := by
      have := (List.getElem?_eq_some_iff.1 hv).1
      simp [encB] at this
      exact this
    subst hj
    have hb : (bv sm)[i]? = some v := by
      unfold bv
      rw [List.getElem?_map, List.getElem?_eq_getElem hi, ← hv, List.getD_eq_getElem?_getD, List.getElem?_eq_getElem hi]
      rfl
    have := range_row (heap_alloc_new w (.cells (bv sm).toArray t fr)) i v hb
    simpa using this⟩, fun h => by cases h⟩
def PostLi (s : Str) (w : World) (e : Ending) (w' : World) : Prop := Below w.heap.size w w' ∧ ∃ g c, e = .returned (.slice (some ⟨g, 0, none⟩) (pkt s).length c) ∧ w.heap.size ≤ g ∧ PB w' (some ⟨g, 0, none⟩) c (pkt s)
set_option maxRecDepth 20000 in
theorem line_any {w : World} (a : Option Addr) (cap : Nat) (s : Str) (hP : PB w a cap s) (hl : s.length ≤ 1000) : Calls Tryz.prog 60 #[.slice a s.length cap] w (PostLi s w) := by
  by_cases h0 : s.length = 0
  · obtain rfl : s = [] := List.length_eq_zero_iff.1 h0
    have hbe := run_four 48 48 48 48 w
    obtain ⟨W1, HW1⟩ : ∃ W, Hid (w.alloc (.cells #[.int .u8 48, .int .u8 48, .int .u8 48, .int .u8 48] 5 (4, 5)) = W) := ⟨_, rfl⟩
    have hcc := Lib.run_convert_bytes_const (P := Tryz.prog) w 25 5 #[.int .u8 48, .int .u8 48, .int .u8 48, .int .u8 48] 4 4 Tryz.underlying25 Tryz.underlying5
    have HE : Hid (w.alloc (.cells #[.int .u8 48, .int .u8 48, .int .u8 48, .int .u8 48] 5 ((#[.int .u8 48, .int .u8 48, .int .u8 48, .int .u8 48] : Array Value).size, (#[.int .u8 48, .int .u8 48, .int .u8 48, .int .u8 48] : Array Value).size + 1)) = W1) := hid HW1.out
    rw [HE.out] at hcc
    have HB0 : Hid (Below w.heap.size w W1) := hid (by rw [← HW1.out]; exact (Below.refl _ _).alloc (Nat.le_refl _) _)
    have HP0 : Hid (PB W1 (some ⟨w.heap.size, 0, none⟩) 4 (pkt [])) := hid (by rw [← HW1.out]; exact pb_newf [48, 48, 48, 48] w 5 (4, 5))
    clear hP hl h0
    show Calls Tryz.prog 60 #[.slice a 0 cap] w _
    go_enter Tryz.func60, Tryz.ntmps60
    go_wp2
    go_ret
    exact ⟨HB0.out, _, _, rfl, Nat.le_refl _, HP0.out⟩
  · obtain ⟨n, HN⟩ : ∃ n, Hid (s.length = n) := ⟨_, rfl⟩
    have hn : n ≤ 1000 := by rw [← HN.out]; exact hl
    have hn0 : ((n : Int) == 0) = false := by rw [HN.out] at h0; simp; omega
    have C18 : Hid (Calls Tryz.prog 95 #[.int .i64 ((n : Int) + 4)] w fun e w' => e = .returned (.string ⟨(hx4 (n + 4)).toArray⟩) ∧ Below w.heap.size w w') := hid (digits_any (n + 4) (by omega) w)
    have HZ4 : Hid (szT n = hx4 (n + 4)) := hid (by unfold szT; rw [if_neg (by rw [← HN.out]; exact h0)])
    rw [← HZ4.out] at C18
    have HPB := hid hP
    obtain ⟨Z, HZ⟩ : ∃ Z : ByteArray, Hid (⟨(szT n).toArray⟩ = Z) := ⟨_, rfl⟩
    rw [HZ.out] at C18
    rw [HN.out]
    clear hP hl h0
    go_enter Tryz.func60, Tryz.ntmps60
    go_wp2_with fail
    refine C18.out.mono ?_
    rintro e w1 ⟨rfl, hb1⟩
    obtain ⟨c2, w2, hr2, hm2, hb2⟩ := conv_mk (szT n) w1
    rw [HZ.out, szT_len] at hr2
    obtain ⟨v3, w3, hr3, g3, c3, hv3, hm3, hor3, hg3⟩ := app_mk w2 w1.heap.size c2 (szT n) s a cap hm2 ((HPB.out.below hb1).below hb2) (by rw [szT_len, HN.out]; omega)
    rw [szT_len, HN.out] at hr3
    have HB3 : Hid (Below w.heap.size w w3) := hid (by
      have h1 : Below w.heap.size w w2 := hb1.trans (hb2.mono hb1.size)
      exact h1.grown hg3 (Nat.le_trans hb1.size hb2.size) (fun k hk => by cases hk; exact hb1.size))
    have HP3 : Hid (PB w3 (some ⟨g3, 0, none⟩) c3 (pkt s)) := hid (by have := hm3.pb; unfold pkt; rw [HN.out]; exact this)
    have HG3 : Hid (w.heap.size ≤ g3) := hid (by
      have h1 := hb1.size
      have h2 := hb2.size
      rcases hor3 with h | h <;> omega)
    have HV3 : Hid (v3 = .slice (some ⟨g3, 0, none⟩) (pkt s).length c3) := hid (by rw [hv3]; unfold pkt; rw [HN.out])
    clear hb1 hb2 hm2 hm3 hor3 hg3 hv3
    go_wp2_with (first | (at_builtin; refine wpList_app rfl _ _ 25 25 rfl 25 rfl _ _ rfl rfl hr3 ?_) | fail)
    go_wp2
    go_ret
    exact ⟨HB3.out, g3, c3, by rw [← HV3.out]; rfl, HG3.out, HP3.out⟩
theorem szT_inj {n m : Nat} (hn : n ≤ 1000) (hm : m ≤ 1000) (h : szT n = szT m) : n = m := by
  have h1 := (szT_hex n hn).1
  have h2 := (szT_hex m hm).1
  rw [h, h2] at h1
  have h3 := Option.some.inj h1
  by_cases h4 : n = 0 <;> by_cases h5 : m = 0 <;> simp [h4, h5] at h3 <;> omega
def PostNx (a : Option Addr) (cap : Nat) (s : Str) (w : World) (e : Ending) (w' : World) : Prop :=
  Below w.heap.size w w' ∧ ((∃ n, Fst s n ∧ e = .returned (.tuple #[.slice (adX 1 a cap 4) n (cap - 4 : Nat), .slice (adX 1 a cap (4 + n)) (s.length - (4 + n) : Nat) (cap - (4 + n) : Nat), .bool true])) ∨ ((¬ ∃ n, Fst s n) ∧ e = .returned (.tuple #[.slice none 0 0, .slice a s.length cap, .bool false])))
theorem Tryz.results84 : Tryz.f84.results = #[.tmp 2, .tmp 3, .tmp 4] := by kernel_rfl
set_option maxRecDepth 20000 in
set_option maxHeartbeats 4000000 in
theorem next_any {w : World} (a : Option Addr) (cap : Nat) (s : Str) (hP : PB w a cap s) (hl : s.length ≤ 1000000) : Calls Tryz.prog 84 #[.slice a s.length cap] w (PostNx a cap s w) := by
  obtain ⟨m, HM⟩ : ∃ m, Hid (s.length = m) := ⟨_, rfl⟩
  have hm : m ≤ 1000000 := by rw [← HM.out]; exact hl
  have hcap : m ≤ cap := by rw [← HM.out]; exact hP.capl
  have HPB := hid hP
  by_cases h4 : m < 4
  · have h4i : (m : Int) < 4 := by omega
    have HN : Hid (¬ ∃ n, Fst s n) := hid (by rintro ⟨n, h⟩; have := h.2.1; rw [HM.out] at this; omega)
    rw [HM.out]
    go_enter Tryz.func84, Tryz.ntmps84
    go_wp2
    refine bodyPost_ret (results_tmp3 Tryz.results84 _ _ _) rfl ?_
    exact ⟨Below.refl _ _, .inr ⟨HN.out, by rw [HM.out]; rfl⟩⟩
  have h4i : ¬ (m : Int) < 4 := by omega
  obtain ⟨t, HT⟩ : ∃ t, Hid (s.take 4 = t) := ⟨_, rfl⟩
  have HTL : Hid (t.length = 4) := hid (by rw [← HT.out, List.length_take, HM.out]; omega)
  obtain ⟨S, HS⟩ : ∃ S : ByteArray, Hid (⟨t.toArray⟩ = S) := ⟨_, rfl⟩
  have hs4 : ∀ W : World, (Instr.slice 25 (.slice a m cap) none (some (.int .i64 4)) none).run Tryz.prog W = .ok (.slice a 4 cap) W := fun W => sl4 a m cap 4 (by omega) W
  have HCV : Hid (∀ W : World, Below w.heap.size w W → (convert 25 9 (.slice a 4 cap)).run Tryz.prog W = .ok (.string S) W) := hid (fun W hW => by
    have hp : PB W a cap t := by rw [← HT.out]; exact (HPB.out.below hW).take 4
    have := conv_str hp
    rw [HTL.out] at this
    rw [← HS.out]
    exact this)
  rw [HM.out]
  clear hP hl
  go_enter Tryz.func84, Tryz.ntmps84
  go_wp2_with fail
  go_loopg [5] 1001 (fun gg nv wr => ∃ n : Nat, nv = .int .i64 n ∧ n ≤ 1001 ∧ gg = 1001 - n ∧ Hid (Below w.heap.size w wr) ∧ Hid (∀ j, j < n → t ≠ szT j))
  case atStart => exact ⟨0, rfl, Nat.zero_le _, rfl, hid (Below.refl _ _), hid (fun j hj => by omega)⟩
  case round =>
    obtain ⟨n, rfl, hn, hk, HBW, HNO⟩ := hrel
    by_cases hlt : n ≤ 1000
    · have hlti : (n : Int) ≤ 1000 := by omega
      have C18 : Hid (Calls Tryz.prog 95 #[.int .i64 ((n : Int) + 4)] wr fun e w' => e = .returned (.string ⟨(hx4 (n + 4)).toArray⟩) ∧ Below wr.heap.size wr w') := hid (digits_any (n + 4) (by omega) wr)
      obtain ⟨Y, HY⟩ : ∃ Y : ByteArray, Hid (⟨(hx4 (n + 4)).toArray⟩ = Y) := ⟨_, rfl⟩
      rw [HY.out] at C18
      by_cases hz : n = 0
      · have hz0 : ((n : Int) == 0) = true := by simp [hz]
        obtain ⟨Z, HZ⟩ : ∃ Z : ByteArray, Hid (⟨(szT n).toArray⟩ = Z) := ⟨_, rfl⟩
        have HN0 := hid hz
        clear hz
        go_wp2_with fail
        refine C18.out.mono ?_
        rintro e w1 ⟨rfl, hb1⟩
        have HB1 : Hid (Below w.heap.size w w1) := hid (HBW.out.trans (hb1.mono HBW.out.size))
        have hcv := HCV.out w1 HB1.out
        clear hb1
        by_cases heq : t = szT n
        · have hbq : (S.toList == Z.toList) = true := by rw [← HZ.out, ← HS.out, heq]; simp
          have hb48 : (S.toList == [48, 48, 48, 48]) = true := by have ht : t = [48, 48, 48, 48] := (by rw [heq, HN0.out]; rfl)
                                                                  rw [← HS.out, ht]; simp
          have HONE : Hid (∀ j, Fst s j → j = n) := hid (fun j h => szT_inj h.1 (by omega) (by rw [← h.2.2, HT.out, heq]))
          have HEQ := hid heq
          clear heq
          by_cases hsm : m < 4 + n
          · have hsmi : (m : Int) < 4 + (n : Int) := by omega
            have HN : Hid (¬ ∃ n, Fst s n) := hid (by
              rintro ⟨j, h⟩
              have h1 := HONE.out j h
              have h2 := h.2.1
              rw [HM.out] at h2
              omega)
            go_wp2
            refine bodyPost_ret (results_tmp3 Tryz.results84 _ _ _) rfl ?_
            exact ⟨HB1.out, .inr ⟨HN.out, by rw [HM.out]; rfl⟩⟩
          · have hsmi : ¬ (m : Int) < 4 + (n : Int) := by omega
            have hwr : IntKind.i64.wrap (4 + (n : Int)) = 4 + (n : Int) := by rw [IntKind.wrap_i64]; omega
            have HF : Hid (Fst s n) := hid ⟨by omega, by rw [HM.out]; omega, by rw [HT.out, HEQ.out]⟩
            obtain ⟨A4, HA4⟩ : ∃ x, Hid (adX 1 a cap 4 = x) := ⟨_, rfl⟩
            obtain ⟨c4, HC4⟩ : ∃ x, Hid (cap - 4 = x) := ⟨_, rfl⟩
            obtain ⟨Aq, HAq⟩ : ∃ x, Hid (adX 1 a cap (4 + n) = x) := ⟨_, rfl⟩
            obtain ⟨cq, HCq⟩ : ∃ x, Hid (cap - (4 + n) = x) := ⟨_, rfl⟩
            obtain ⟨mq, HMq⟩ : ∃ x, Hid (m - (4 + n) = x) := ⟨_, rfl⟩
            have hsl : ∀ W : World, (Instr.slice 25 (.slice a m cap) (some (.int .i64 4)) (some (.int .i64 (4 + (n : Int)))) none).run Tryz.prog W = .ok (.slice A4 n c4) W := fun W => by
              have := sl22 a m cap 4 (4 + n) (4 + (n : Int)) (by omega) (by omega) (by omega) W
              rw [HA4.out, HC4.out, show 4 + n - 4 = n by omega] at this
              exact this
            have hslq : ∀ W : World, (Instr.slice 25 (.slice a m cap) (some (.int .i64 (4 + (n : Int)))) none none).run Tryz.prog W = .ok (.slice Aq mq cq) W := fun W => by
              have := sl22l a m cap (4 + n) (by omega) W
              rw [HAq.out, HCq.out, HMq.out, show ((4 + n : Nat) : Int) = 4 + (n : Int) by omega] at this
              exact this
            go_wp2_with fail
            have HBd : Hid (Below w.heap.size w w1.drew) := hid (Below.drewR HB1.out)
            refine wp_region_held_drew (S := fun _ => True) (by kernel_rfl) trivial (fun hHeld => ?_)
            generalize w1.drew = wd at HBd ⊢
            refine takeL (i := 0) (v := ?_) rfl (by kernel_rfl) (by kernel_rfl) (by kernel_rfl) (fun _ _ _ h => h) (Or.inl ⟨by rfl, ?_⟩) hHeld ?_
            rotate_left
            · rintro w' _; go_simp; rfl
            try simp only [Act.put, List.setIfInBounds_toArray, List.set_cons_zero, List.set_cons_succ]
            refine takeL (i := 1) (v := ?_) rfl (by kernel_rfl) (by kernel_rfl) (by kernel_rfl) (fun _ _ _ h => h) (Or.inl ⟨by rfl, ?_⟩) hHeld ?_
            rotate_left
            · rintro w' _; go_simp; rfl
            try simp only [Act.put, List.setIfInBounds_toArray, List.set_cons_zero, List.set_cons_succ]
            refine takeL (i := 2) (v := .int .i64 (4 + (n : Int))) rfl (by kernel_rfl) (by kernel_rfl) (by kernel_rfl) (fun _ _ _ h => h) (Or.inl ⟨by rfl, ?_⟩) hHeld ?_
            · rintro w' _; go_simp; try rfl
            try simp only [Act.put, List.setIfInBounds_toArray, List.set_cons_zero, List.set_cons_succ]
            refine takeL (i := 3) (v := .slice A4 n c4) rfl (by kernel_rfl) (by kernel_rfl) (by kernel_rfl) (fun _ _ _ h => h) (Or.inl ⟨by rfl, ?_⟩) hHeld ?_
            · rintro w' _; go_simp; try rfl
            try simp only [Act.put, List.setIfInBounds_toArray, List.set_cons_zero, List.set_cons_succ]
            refine takeL (i := 4) (v := ?_) rfl (by kernel_rfl) (by kernel_rfl) (by kernel_rfl) (fun _ _ _ h => h) (Or.inl ⟨by rfl, ?_⟩) hHeld ?_
            rotate_left
            · rintro w' _; go_simp; rfl
            try simp only [Act.put, List.setIfInBounds_toArray, List.set_cons_zero, List.set_cons_succ]
            refine takeL (i := 5) (v := ?_) rfl (by kernel_rfl) (by kernel_rfl) (by kernel_rfl) (fun _ _ _ h => h) (Or.inl ⟨by rfl, ?_⟩) hHeld ?_
            rotate_left
            · rintro w' _; go_simp; rfl
            try simp only [Act.put, List.setIfInBounds_toArray, List.set_cons_zero, List.set_cons_succ]
            refine takeL (i := 6) (v := .int .i64 (4 + (n : Int))) rfl (by kernel_rfl) (by kernel_rfl) (by kernel_rfl) (fun _ _ _ h => h) (Or.inl ⟨by rfl, ?_⟩) hHeld ?_
            · rintro w' _; go_simp; try rfl
            try simp only [Act.put, List.setIfInBounds_toArray, List.set_cons_zero, List.set_cons_succ]
            refine takeL (i := 7) (v := .slice Aq mq cq) rfl (by kernel_rfl) (by kernel_rfl) (by kernel_rfl) (fun _ _ _ h => h) (Or.inl ⟨by rfl, ?_⟩) hHeld ?_
            · rintro w' _; go_simp; try rfl
            try simp only [Act.put, List.setIfInBounds_toArray, List.set_cons_zero, List.set_cons_succ]
            refine takeL (i := 8) (v := ?_) rfl (by kernel_rfl) (by kernel_rfl) (by kernel_rfl) (fun _ _ _ h => h) (Or.inl ⟨by rfl, ?_⟩) hHeld ?_
            rotate_left
            · rintro w' _; go_simp; rfl
            try simp only [Act.put, List.setIfInBounds_toArray, List.set_cons_zero, List.set_cons_succ]
            refine takeL (i := 9) (v := ?_) rfl (by kernel_rfl) (by kernel_rfl) (by kernel_rfl) (fun _ _ _ h => h) (Or.inl ⟨by rfl, ?_⟩) hHeld ?_
            rotate_left
            · rintro w' _; go_simp; rfl
            try simp only [Act.put, List.setIfInBounds_toArray, List.set_cons_zero, List.set_cons_succ]
            refine takeL (i := 10) (v := ?_) rfl (by kernel_rfl) (by kernel_rfl) (by kernel_rfl) (fun _ _ _ h => h) (Or.inl ⟨by rfl, ?_⟩) hHeld ?_
            rotate_left
            · rintro w' _; go_simp; rfl
            try simp only [Act.put, List.setIfInBounds_toArray, List.set_cons_zero, List.set_cons_succ]
            refine wpAnyH_done (by kernel_rfl) ?_ _
            clear hHeld
            go_wp2
            refine bodyPost_ret (results_tmp3 Tryz.results84 _ _ _) rfl ?_
            refine ⟨HBd.out, .inl ⟨n, HF.out, ?_⟩⟩
            rw [HA4.out, HC4.out, HAq.out, HCq.out, HM.out, HMq.out]
            rfl
        · have hbq : (S.toList == Z.toList) = false := bne_txt HS.out HZ.out heq
          have hb48 : (S.toList == [48, 48, 48, 48]) = false := by have ht : t ≠ [48, 48, 48, 48] := (fun h => heq (by rw [h, HN0.out]; rfl))
                                                                   rw [← HS.out]; simp [ht]
          have HNO2 : Hid (∀ j, j < n + 1 → t ≠ szT j) := hid (fun j hj => by
            by_cases h : j = n
            · rw [h]; exact heq
            · exact HNO.out j (by omega))
          clear heq
          go_wp2
          go_roundg (1001 - (n + 1))
          case measure => omega
          case rel => exact ⟨n + 1, by go_num, by omega, rfl, HB1, HNO2⟩
      · have hz0 : ((n : Int) == 0) = false := by simp [hz]
        obtain ⟨Z, HZ⟩ : ∃ Z : ByteArray, Hid (⟨(szT n).toArray⟩ = Z) := ⟨_, rfl⟩
        have hZ0 : Y = Z := by rw [← HZ.out, ← HY.out]; unfold szT; rw [if_neg hz]
        rw [hZ0] at C18
        have HZ0 := hid hZ0
        clear hZ0 hz
        go_wp2_with fail
        refine C18.out.mono ?_
        rintro e w1 ⟨rfl, hb1⟩
        have HB1 : Hid (Below w.heap.size w w1) := hid (HBW.out.trans (hb1.mono HBW.out.size))
        have hcv := HCV.out w1 HB1.out
        clear hb1
        by_cases heq : t = szT n
        · have hbq : (S.toList == Z.toList) = true := by rw [← HZ.out, ← HS.out, heq]; simp
          have HONE : Hid (∀ j, Fst s j → j = n) := hid (fun j h => szT_inj h.1 (by omega) (by rw [← h.2.2, HT.out, heq]))
          have HEQ := hid heq
          clear heq
          by_cases hsm : m < 4 + n
          · have hsmi : (m : Int) < 4 + (n : Int) := by omega
            have HN : Hid (¬ ∃ n, Fst s n) := hid (by
              rintro ⟨j, h⟩
              have h1 := HONE.out j h
              have h2 := h.2.1
              rw [HM.out] at h2
              omega)
            go_wp2
            refine bodyPost_ret (results_tmp3 Tryz.results84 _ _ _) rfl ?_
            exact ⟨HB1.out, .inr ⟨HN.out, by rw [HM.out]; rfl⟩⟩
          · have hsmi : ¬ (m : Int) < 4 + (n : Int) := by omega
            have hwr : IntKind.i64.wrap (4 + (n : Int)) = 4 + (n : Int) := by rw [IntKind.wrap_i64]; omega
            have HF : Hid (Fst s n) := hid ⟨by omega, by rw [HM.out]; omega, by rw [HT.out, HEQ.out]⟩
            obtain ⟨A4, HA4⟩ : ∃ x, Hid (adX 1 a cap 4 = x) := ⟨_, rfl⟩
            obtain ⟨c4, HC4⟩ : ∃ x, Hid (cap - 4 = x) := ⟨_, rfl⟩
            obtain ⟨Aq, HAq⟩ : ∃ x, Hid (adX 1 a cap (4 + n) = x) := ⟨_, rfl⟩
            obtain ⟨cq, HCq⟩ : ∃ x, Hid (cap - (4 + n) = x) := ⟨_, rfl⟩
            obtain ⟨mq, HMq⟩ : ∃ x, Hid (m - (4 + n) = x) := ⟨_, rfl⟩
            have hsl : ∀ W : World, (Instr.slice 25 (.slice a m cap) (some (.int .i64 4)) (some (.int .i64 (4 + (n : Int)))) none).run Tryz.prog W = .ok (.slice A4 n c4) W := fun W => by
              have := sl22 a m cap 4 (4 + n) (4 + (n : Int)) (by omega) (by omega) (by omega) W
              rw [HA4.out, HC4.out, show 4 + n - 4 = n by omega] at this
              exact this
            have hslq : ∀ W : World, (Instr.slice 25 (.slice a m cap) (some (.int .i64 (4 + (n : Int)))) none none).run Tryz.prog W = .ok (.slice Aq mq cq) W := fun W => by
              have := sl22l a m cap (4 + n) (by omega) W
              rw [HAq.out, HCq.out, HMq.out, show ((4 + n : Nat) : Int) = 4 + (n : Int) by omega] at this
              exact this
            go_wp2_with fail
            have HBd : Hid (Below w.heap.size w w1.drew) := hid (Below.drewR HB1.out)
            refine wp_region_held_drew (S := fun _ => True) (by kernel_rfl) trivial (fun hHeld => ?_)
            generalize w1.drew = wd at HBd ⊢
            refine takeL (i := 0) (v := ?_) rfl (by kernel_rfl) (by kernel_rfl) (by kernel_rfl) (fun _ _ _ h => h) (Or.inl ⟨by rfl, ?_⟩) hHeld ?_
            rotate_left
            · rintro w' _; go_simp; rfl
            try simp only [Act.put, List.setIfInBounds_toArray, List.set_cons_zero, List.set_cons_succ]
            refine takeL (i := 1) (v := ?_) rfl (by kernel_rfl) (by kernel_rfl) (by kernel_rfl) (fun _ _ _ h => h) (Or.inl ⟨by rfl, ?_⟩) hHeld ?_
            rotate_left
            · rintro w' _; go_simp; rfl
            try simp only [Act.put, List.setIfInBounds_toArray, List.set_cons_zero, List.set_cons_succ]
            refine takeL (i := 2) (v := .int .i64 (4 + (n : Int))) rfl (by kernel_rfl) (by kernel_rfl) (by kernel_rfl) (fun _ _ _ h => h) (Or.inl ⟨by rfl, ?_⟩) hHeld ?_
            · rintro w' _; go_simp; try rfl
            try simp only [Act.put, List.setIfInBounds_toArray, List.set_cons_zero, List.set_cons_succ]
            refine takeL (i := 3) (v := .slice A4 n c4) rfl (by kernel_rfl) (by kernel_rfl) (by kernel_rfl) (fun _ _ _ h => h) (Or.inl ⟨by rfl, ?_⟩) hHeld ?_
            · rintro w' _; go_simp; try rfl
            try simp only [Act.put, List.setIfInBounds_toArray, List.set_cons_zero, List.set_cons_succ]
            refine takeL (i := 4) (v := ?_) rfl (by kernel_rfl) (by kernel_rfl) (by kernel_rfl) (fun _ _ _ h => h) (Or.inl ⟨by rfl, ?_⟩) hHeld ?_
            rotate_left
            · rintro w' _; go_simp; rfl
            try simp only [Act.put, List.setIfInBounds_toArray, List.set_cons_zero, List.set_cons_succ]
            refine takeL (i := 5) (v := ?_) rfl (by kernel_rfl) (by kernel_rfl) (by kernel_rfl) (fun _ _ _ h => h) (Or.inl ⟨by rfl, ?_⟩) hHeld ?_
            rotate_left
            · rintro w' _; go_simp; rfl
            try simp only [Act.put, List.setIfInBounds_toArray, List.set_cons_zero, List.set_cons_succ]
            refine takeL (i := 6) (v := .int .i64 (4 + (n : Int))) rfl (by kernel_rfl) (by kernel_rfl) (by kernel_rfl) (fun _ _ _ h => h) (Or.inl ⟨by rfl, ?_⟩) hHeld ?_
            · rintro w' _; go_simp; try rfl
            try simp only [Act.put, List.setIfInBounds_toArray, List.set_cons_zero, List.set_cons_succ]
            refine takeL (i := 7) (v := .slice Aq mq cq) rfl (by kernel_rfl) (by kernel_rfl) (by kernel_rfl) (fun _ _ _ h => h) (Or.inl ⟨by rfl, ?_⟩) hHeld ?_
            · rintro w' _; go_simp; try rfl
            try simp only [Act.put, List.setIfInBounds_toArray, List.set_cons_zero, List.set_cons_succ]
            refine takeL (i := 8) (v := ?_) rfl (by kernel_rfl) (by kernel_rfl) (by kernel_rfl) (fun _ _ _ h => h) (Or.inl ⟨by rfl, ?_⟩) hHeld ?_
            rotate_left
            · rintro w' _; go_simp; rfl
            try simp only [Act.put, List.setIfInBounds_toArray, List.set_cons_zero, List.set_cons_succ]
            refine takeL (i := 9) (v := ?_) rfl (by kernel_rfl) (by kernel_rfl) (by kernel_rfl) (fun _ _ _ h => h) (Or.inl ⟨by rfl, ?_⟩) hHeld ?_
            rotate_left
            · rintro w' _; go_simp; rfl
            try simp only [Act.put, List.setIfInBounds_toArray, List.set_cons_zero, List.set_cons_succ]
            refine takeL (i := 10) (v := ?_) rfl (by kernel_rfl) (by kernel_rfl) (by kernel_rfl) (fun _ _ _ h => h) (Or.inl ⟨by rfl, ?_⟩) hHeld ?_
            rotate_left
            · rintro w' _; go_simp; rfl
            try simp only [Act.put, List.setIfInBounds_toArray, List.set_cons_zero, List.set_cons_succ]
            refine wpAnyH_done (by kernel_rfl) ?_ _
            clear hHeld
            go_wp2
            refine bodyPost_ret (results_tmp3 Tryz.results84 _ _ _) rfl ?_
            refine ⟨HBd.out, .inl ⟨n, HF.out, ?_⟩⟩
            rw [HA4.out, HC4.out, HAq.out, HCq.out, HM.out, HMq.out]
            rfl
        · have hbq : (S.toList == Z.toList) = false := bne_txt HS.out HZ.out heq
          have HNO2 : Hid (∀ j, j < n + 1 → t ≠ szT j) := hid (fun j hj => by
            by_cases h : j = n
            · rw [h]; exact heq
            · exact HNO.out j (by omega))
          clear heq
          go_wp2
          go_roundg (1001 - (n + 1))
          case measure => omega
          case rel => exact ⟨n + 1, by go_num, by omega, rfl, HB1, HNO2⟩
    · have hlti : ¬ (n : Int) ≤ 1000 := by omega
      have HN : Hid (¬ ∃ n, Fst s n) := hid (by
        rintro ⟨j, h⟩
        exact HNO.out j (by have := h.1; omega) (by rw [← HT.out, h.2.2]))
      go_wp2
      refine bodyPost_ret (results_tmp3 Tryz.results84 _ _ _) rfl ?_
      exact ⟨HBW.out, .inr ⟨HN.out, by rw [HM.out]; rfl⟩⟩
end Go.Proofs.YtijeogdnjeamaaaGreatDoor
