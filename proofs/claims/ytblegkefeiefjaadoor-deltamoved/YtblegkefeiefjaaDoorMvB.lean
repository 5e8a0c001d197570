/- The law 'DeltaMoved': its walk. -/
import Derived.Test.YtblegkefeiefjaaDoorMvA
namespace Go.Proofs.YtblegkefeiefjaaDoor
open Go.RowKit Plain Go.Shelf Go.Maps
set_option linter.unusedVariables false
set_option linter.unusedSimpArgs false
theorem rem_nat (L d : Int) (h : 0 < d) : ∃ n : Nat, (IntKind.u64.wrap L).tmod d = (n : Int) ∧ (n : Int) < d := by
  have h0 : 0 ≤ IntKind.u64.wrap L := by rw [IntKind.wrap_u64]; omega
  rw [Int.tmod_eq_emod_of_nonneg h0]
  have h1 := Int.emod_nonneg (IntKind.u64.wrap L) (Int.ne_of_gt h)
  have h2 := Int.emod_lt_of_pos (IntKind.u64.wrap L) h
  exact ⟨(IntKind.u64.wrap L % d).toNat, by omega, by omega⟩
theorem owns_some {W : World} {B n c n' : Nat} {a : Option Addr} {xs : List Value} (h : W.ownsRow B 5 1 (.slice a n' c) n xs) {p : Addr} (hp : a = some p) : p.block < W.heap.size := by
  obtain ⟨_, ⟨h1, h2⟩ | ⟨g, cap, cur, hv, h3, h4, _⟩⟩ := h
  · simp only [Value.slice.injEq] at h1
    rw [h1.1] at hp; cases hp
  · simp only [Value.slice.injEq] at hv
    rw [hv.1] at hp; cases hp
    exact (Array.getElem?_eq_some_iff.1 h4).1
/-- What the loop keeps. -/
structure MvI (w : World) (xs : List Int) (tv : Value) (tg : List Int) (m l : Nat) (wr : World) : Prop where
  own : wr.ownsRow w.heap.size 5 1 tv tg.length (tg.map (Value.int .u8))
  bel : Below w.heap.size w wr
  isB : IsB tg
  cnt : ∃ K, Kok xs tg K ∧ fK K tg.length ≤ 16 * m + 2 * l
set_option maxRecDepth 20000 in
set_option maxHeartbeats 4000000 in
theorem walkM_main (a a' pa : Option Addr) (cap cap' pc N : Nat) (xs zs : List Int) (w : World) (hl : xs.length ≤ 20000) (hl32 : 32 ≤ xs.length) (hl' : zs.length ≤ 20000) (hN : N ≤ 1000) (hx : IsB xs) (hz : IsB zs) (hS : Sl w a cap xs) (hS' : Sl w a' cap' zs) (hP : Pcs w pa N) :
    Calls Tryd.prog 5 #[.slice a xs.length cap, .slice a' zs.length cap', .slice pa N pc] w fun e w' => e = .returned (.bool true) ∧ Below w.heap.size w w' := by
  have HX : Hid (Sl w a cap xs) := hS
  have HZ : Hid (Sl w a' cap' zs) := hS'
  have HP : Hid (Pcs w pa N) := hP
  obtain ⟨X, HXL⟩ : ∃ X, Hid (X = xs.length) := ⟨_, rfl⟩
  obtain ⟨Z, HZL⟩ : ∃ Z, Hid (Z = zs.length) := ⟨_, rfl⟩
  have h1 : ¬ (20000 : Int) < X := by have := HXL.out; omega
  have h2 : ¬ (X : Int) < 32 := by have := HXL.out; omega
  have h3 : ¬ (20000 : Int) < Z := by have := HZL.out; omega
  have h4 : ¬ (1000 : Int) < N := by omega
  have hX : X ≤ 20000 ∧ 32 ≤ X := by have := HXL.out; omega
  have hZ : Z ≤ 20000 := by have := HZL.out; omega
  obtain ⟨b0, off0, rfl, hb0, hat0⟩ := hS.at_ (by omega)
  have hXc : X ≤ cap := by rw [HXL.out]; exact hS.capl
  have tok : True := trivial
  rw [← HXL.out, ← HZL.out]
  clear hS hS' hP hat0
  go_enter Tryd.func5, Tryd.ntmps5
  go_wp2_with (at_builtin; have _t := tok; refine wpList_append_sl rfl _ _ rfl w.heap.size (.slice none 0 0) [] rfl (World.ownsRow_nil _ _ _ _) a' cap' zs (by rw [← HZL.out]; rfl) HZ.out (by simp; omega) (Nat.le_refl _) ?_; intro v1 w1 ho1 hm1; obtain ⟨va, vc, rfl⟩ := owns_shape ho1; rw [List.nil_append, ← HZL.out] at ho1; simp only [List.nil_append, ← HZL.out] at hm1 ⊢; have HO1 : Hid (w1.ownsRow w.heap.size 5 1 (.slice va Z vc) Z (zs.map (Value.int .u8))) := ho1; have HM1 : Hid (Mv w w1 (.slice none 0 0) (.slice va Z vc)) := hm1; clear ho1 hm1 tok)
  have HI1 : Hid (MvI w xs (.slice va Z vc) zs 0 Z w1) := ⟨by rw [← HZL.out]; exact HO1.out, HM1.out.below (fun k hk => by cases hk) (Nat.le_refl _), hz, _, kok_first xs zs, by rw [fK_first, HZL.out]; omega⟩
  clear HO1 HM1
  go_loopg [7, 8, 9, 10] N (fun k tv lv mv iv wr => ∃ (i m l T : Nat) (tg : List Int) (ta : Option Addr) (tc : Nat), tv = .slice ta T tc ∧ lv = .int .i64 l ∧ mv = .int .i64 m ∧ iv = .int .i64 i ∧ k = N - i ∧ i ≤ N ∧ m ≤ i ∧ l ≤ T ∧ T ≤ 40000 ∧ Hid (T = tg.length) ∧ Hid (MvI w xs (.slice ta T tc) tg m l wr))
  case atStart => exact ⟨0, 0, Z, Z, zs, va, vc, rfl, rfl, rfl, rfl, rfl, Nat.zero_le _, Nat.le_refl _, Nat.le_refl _, by omega, HZL.out, HI1.out⟩
  case round =>
    clear HI1
    obtain ⟨i, m, l, T, tg, ta, tc, rfl, rfl, rfl, rfl, hk, hi, hm, hlT, hT, HT, HI⟩ := hrel
    have HDG : Hid (Dg wr w.heap.size ta tc tg) := dg_of (by have := HI.out.own; rw [HT.out] at this; exact this)
    have HMK : Hid (Calls Tryd.prog 14 #[.slice (some ⟨b0, off0, none⟩) xs.length cap, .slice ta tg.length tc] wr (PostM wr xs tg)) := make_any (some ⟨b0, off0, none⟩) ta cap tc xs tg wr hx HI.out.isB (by omega) (by rw [← HT.out]; omega) (HX.out.below' HI.out.bel) HDG.out.sl (fun p hp => by cases hp; exact Nat.lt_of_lt_of_le hb0 HI.out.bel.size) (fun p hp => owns_some HI.out.own hp)
    rw [← HXL.out, ← HT.out] at HMK
    by_cases hiN : i < N
    · have hiI : (i : Int) < N := by omega
      obtain ⟨pb, po, F, L, am, cm, mo, rfl, hpb, cF, cL, cM, hzm, hsm⟩ := HP.out i hiN
      have kF : wr.cell? ⟨pb, po + i * 3, none⟩ = some (.int .i64 F) := (HI.out.bel.cell (p := ⟨pb, po + i * 3, none⟩) hpb).trans cF
      have kL : wr.cell? ⟨pb, po + i * 3 + 1, none⟩ = some (.int .i64 L) := (HI.out.bel.cell (p := ⟨pb, po + i * 3 + 1, none⟩) hpb).trans cL
      have kM : wr.cell? ⟨pb, po + i * 3 + 2, none⟩ = some (.slice am mo.length cm) := (HI.out.bel.cell (p := ⟨pb, po + i * 3 + 2, none⟩) hpb).trans cM
      have HSM : Hid (Sl w am cm mo) := hsm
      obtain ⟨MO, HMO⟩ : ∃ MO, Hid (MO = mo.length) := ⟨_, rfl⟩
      rw [← HMO.out] at kM cM
      have HCM : Hid (w.cell? ⟨pb, po + i * 3 + 2, none⟩ = some (.slice am MO cm)) := cM
      clear cF cL cM hsm
      obtain ⟨n0, hn0, hn0b⟩ := rem_nat L ((X : Int) - 31) (by omega)
      obtain ⟨n, hn⟩ : ∃ n : Nat, (32 : Int) + (n0 : Int) = (n : Int) := ⟨32 + n0, by omega⟩
      obtain ⟨q, hq, hqb⟩ := rem_nat F ((X : Int) - (n : Int) + 1) (by omega)
      have hnX : n ≤ X := by omega
      have hn32 : 32 ≤ n := by omega
      have hqX : q + n ≤ X := by omega
      by_cases hmo : 20000 < MO
      · have hmoI : (20000 : Int) < MO := by omega
        go_wp2_with fail
        refine HMK.out.mono ?_
        rintro ev w3 ⟨pre, bg, v3, rfl, hcu, how3, hb3⟩
        obtain ⟨D, HD⟩ : ∃ D, Hid (D = mk xs tg pre bg) := ⟨_, rfl⟩
        have HDA : Hid (app xs D = some tg) := by show _ = _; rw [HD.out]; exact mk_app hcu HI.out.isB (by omega) (by rw [← HT.out]; omega)
        have HDZ : Hid (IsB D) := by show IsB D; rw [HD.out]; exact mk_isB hcu HI.out.isB (by omega) (by rw [← HT.out]; omega)
        have hDL : D.length ≤ 20 + 16 * m + 2 * l := by
          obtain ⟨K, hK1, hK2⟩ := HI.out.cnt
          have h1 := mk_moved hK1 (by omega) (by rw [← HT.out]; omega) hcu
          rw [HD.out]; omega
        rw [← HD.out] at how3
        obtain ⟨M, HM⟩ : ∃ M, Hid (M = D.length) := ⟨_, rfl⟩
        have hM : M ≤ 20 + 16 * m + 2 * l := by rw [HM.out]; exact hDL
        have hMi : (M : Int) ≤ 20 + 16 * (m : Int) + 2 * (l : Int) := by omega
        obtain ⟨ad, cd, rfl⟩ := slice_of how3
        have HD3 : Hid (Dg w3 wr.heap.size ad cd D) := dg_of how3
        have HB3 : Hid (Below wr.heap.size wr w3) := hb3
        have HB03 : Hid (Below w.heap.size w w3) := HI.out.bel.trans (HB3.out.mono HI.out.bel.size)
        clear how3 hb3 hcu hDL
        have HAP : Hid (Calls Tryd.prog 7 #[.slice (some ⟨b0, off0, none⟩) xs.length cap, .slice ad D.length cd] w3 (PostA w3 (app xs D))) := apply_any (some ⟨b0, off0, none⟩) ad cap cd xs D w3 HDZ.out (by omega) (by rw [← HM.out]; omega) (HX.out.below' HB03.out) HD3.out.sl
        rw [HDA.out] at HAP
        simp only [← HXL.out, ← HM.out] at HAP ⊢
        go_wp2_with fail
        refine HAP.out.mono ?_
        clear HAP
        rintro ev w4 ⟨hb4, v4, rfl, how4⟩
        have HB4 : Hid (Below w3.heap.size w3 w4) := hb4
        have HB04 : Hid (Below w.heap.size w w4) := HB03.out.trans (HB4.out.mono HB03.out.size)
        obtain ⟨av, cv, rfl⟩ := slice_of how4
        have HO4 : Hid (Got w4 w3.heap.size av tg) := got_of how4
        have HT4 : Hid (Sl w4 ta tc tg) := (HDG.out.sl.below' HB3.out).below' HB4.out
        clear how4 hb4
        have HSM : Hid (Calls Tryd.prog 13 #[.slice av tg.length cv, .slice ta tg.length tc] w4 fun e w' => e = .returned (.bool true) ∧ ∃ n, w' = w4.drewN n) := same_any av ta cv tc tg w4 (by rw [← HT.out]; omega) (fun h0 => by obtain ⟨g1, e1, _, _, e4⟩ := HO4.out.at_ h0; exact ⟨g1, 0, e1, e4⟩) (fun h0 => by obtain ⟨b, off, e1, e2, e3⟩ := HT4.out.at_ h0; exact ⟨b, off, e1, e3⟩)
        simp only [← HT.out] at HSM ⊢
        go_wp2_with fail
        refine HSM.out.mono ?_
        clear HSM
        rintro ev w5 ⟨rfl, q5, rfl⟩
        have HB05 : Hid (Below w.heap.size w (w4.drewN q5)) := ⟨HB04.out.os, HB04.out.tape, HB04.out.output, HB04.out.size, HB04.out.block⟩
        obtain ⟨w5, HW5⟩ : ∃ w5, Hid (w4.drewN q5 = w5) := ⟨_, rfl⟩
        rw [HW5.out] at HB05 ⊢
        go_wp2_with fail
        refine (tell_nil w5).mono ?_
        rintro ev w6 ⟨rfl, hb6⟩
        have HB06 : Hid (Below w.heap.size w w6) := HB05.out.trans (hb6.mono HB05.out.size)
        clear hb6
        go_wp2
        go_ret
        exact ⟨rfl, HB06.out⟩
      · have hmoI : ¬ (20000 : Int) < MO := by omega
        by_cases hsum : 40000 < T + n + MO
        · have hsumI : (40000 : Int) < (T : Int) + n + MO := by omega
          go_wp2_with fail
          refine HMK.out.mono ?_
          rintro ev w3 ⟨pre, bg, v3, rfl, hcu, how3, hb3⟩
          obtain ⟨D, HD⟩ : ∃ D, Hid (D = mk xs tg pre bg) := ⟨_, rfl⟩
          have HDA : Hid (app xs D = some tg) := by show _ = _; rw [HD.out]; exact mk_app hcu HI.out.isB (by omega) (by rw [← HT.out]; omega)
          have HDZ : Hid (IsB D) := by show IsB D; rw [HD.out]; exact mk_isB hcu HI.out.isB (by omega) (by rw [← HT.out]; omega)
          have hDL : D.length ≤ 20 + 16 * m + 2 * l := by
            obtain ⟨K, hK1, hK2⟩ := HI.out.cnt
            have h1 := mk_moved hK1 (by omega) (by rw [← HT.out]; omega) hcu
            rw [HD.out]; omega
          rw [← HD.out] at how3
          obtain ⟨M, HM⟩ : ∃ M, Hid (M = D.length) := ⟨_, rfl⟩
          have hM : M ≤ 20 + 16 * m + 2 * l := by rw [HM.out]; exact hDL
          have hMi : (M : Int) ≤ 20 + 16 * (m : Int) + 2 * (l : Int) := by omega
          obtain ⟨ad, cd, rfl⟩ := slice_of how3
          have HD3 : Hid (Dg w3 wr.heap.size ad cd D) := dg_of how3
          have HB3 : Hid (Below wr.heap.size wr w3) := hb3
          have HB03 : Hid (Below w.heap.size w w3) := HI.out.bel.trans (HB3.out.mono HI.out.bel.size)
          clear how3 hb3 hcu hDL
          have HAP : Hid (Calls Tryd.prog 7 #[.slice (some ⟨b0, off0, none⟩) xs.length cap, .slice ad D.length cd] w3 (PostA w3 (app xs D))) := apply_any (some ⟨b0, off0, none⟩) ad cap cd xs D w3 HDZ.out (by omega) (by rw [← HM.out]; omega) (HX.out.below' HB03.out) HD3.out.sl
          rw [HDA.out] at HAP
          simp only [← HXL.out, ← HM.out] at HAP ⊢
          go_wp2_with fail
          refine HAP.out.mono ?_
          clear HAP
          rintro ev w4 ⟨hb4, v4, rfl, how4⟩
          have HB4 : Hid (Below w3.heap.size w3 w4) := hb4
          have HB04 : Hid (Below w.heap.size w w4) := HB03.out.trans (HB4.out.mono HB03.out.size)
          obtain ⟨av, cv, rfl⟩ := slice_of how4
          have HO4 : Hid (Got w4 w3.heap.size av tg) := got_of how4
          have HT4 : Hid (Sl w4 ta tc tg) := (HDG.out.sl.below' HB3.out).below' HB4.out
          clear how4 hb4
          have HSM : Hid (Calls Tryd.prog 13 #[.slice av tg.length cv, .slice ta tg.length tc] w4 fun e w' => e = .returned (.bool true) ∧ ∃ n, w' = w4.drewN n) := same_any av ta cv tc tg w4 (by rw [← HT.out]; omega) (fun h0 => by obtain ⟨g1, e1, _, _, e4⟩ := HO4.out.at_ h0; exact ⟨g1, 0, e1, e4⟩) (fun h0 => by obtain ⟨b, off, e1, e2, e3⟩ := HT4.out.at_ h0; exact ⟨b, off, e1, e3⟩)
          simp only [← HT.out] at HSM ⊢
          go_wp2_with fail
          refine HSM.out.mono ?_
          clear HSM
          rintro ev w5 ⟨rfl, q5, rfl⟩
          have HB05 : Hid (Below w.heap.size w (w4.drewN q5)) := ⟨HB04.out.os, HB04.out.tape, HB04.out.output, HB04.out.size, HB04.out.block⟩
          obtain ⟨w5, HW5⟩ : ∃ w5, Hid (w4.drewN q5 = w5) := ⟨_, rfl⟩
          rw [HW5.out] at HB05 ⊢
          go_wp2_with fail
          refine (tell_nil w5).mono ?_
          rintro ev w6 ⟨rfl, hb6⟩
          have HB06 : Hid (Below w.heap.size w w6) := HB05.out.trans (hb6.mono HB05.out.size)
          clear hb6
          go_wp2
          go_ret
          exact ⟨rfl, HB06.out⟩
        · have hsumI : ¬ (40000 : Int) < (T : Int) + n + MO := by omega
          clear HMK
          obtain ⟨pcs, HPC⟩ : ∃ pcs, Hid (pcs = (xs.drop q).take n) := ⟨_, rfl⟩
          have HPL : Hid (n = pcs.length) := by show n = _; have := HXL.out; rw [HPC.out, List.length_take, List.length_drop]; omega
          have HSP : Hid (Sl wr (some ⟨b0, off0 + q, none⟩) (cap - q) pcs) := by show Sl _ _ _ _; have := HXL.out; rw [HPC.out]; exact sl_part (HX.out.below' HI.out.bel) q n (by omega) _ _ (by omega) (by omega) rfl
          obtain ⟨T1, HT1⟩ : ∃ T1, Hid (T1 = (tg ++ pcs).length) := ⟨_, rfl⟩
          have HT1e : Hid (T1 = T + n) := by show _ = _; rw [HT1.out, List.length_append, ← HT.out, ← HPL.out]
          obtain ⟨T2, HT2⟩ : ∃ T2, Hid (T2 = (tg ++ pcs ++ mo).length) := ⟨_, rfl⟩
          have HT2e : Hid (T2 = T1 + MO) := by show _ = _; rw [HT2.out, List.length_append, ← HT1.out, ← HMO.out]
          have tok1 : True := trivial
          go_wp2_with (first
            | (at_builtin; have _t := tok1; go_loud (refine wpList_append_sl rfl _ _ rfl w.heap.size (.slice ta T tc) tg rfl HI.out.own (some ⟨b0, off0 + q, none⟩) (cap - q) pcs (by rw [← HPL.out]; show Value.slice _ _ _ = _; congr 1 <;> omega) HSP.out (by rw [← HT.out, ← HPL.out]; omega) HI.out.bel.size ?_; intro v1 w2 ho1 hm1; rw [← HT1.out] at ho1; obtain ⟨a1, c1, rfl⟩ := owns_shape ho1; have HO1 : Hid (w2.ownsRow w.heap.size 5 1 (.slice a1 T1 c1) T1 ((tg ++ pcs).map (Value.int .u8))) := ho1; have HB2 : Hid (Below w.heap.size w w2) := HI.out.bel.trans (hm1.below (fun k hk => (HI.out.own.lt k hk).1) HI.out.bel.size); have k2 : w2.cell? ⟨pb, po + i * 3 + 2, none⟩ = some (.slice am MO cm) := (HB2.out.cell (p := ⟨pb, po + i * 3 + 2, none⟩) hpb).trans HCM.out; clear ho1 hm1 tok1))
            | (at_builtin; refine wpList_append_sl rfl _ _ rfl w.heap.size (.slice a1 T1 c1) (tg ++ pcs) rfl (by rw [← HT1.out]; exact HO1.out) am cm mo (by rw [← HMO.out]; rfl) (HSM.out.below' HB2.out) (by have := HT1e.out; rw [← HT1.out, ← HMO.out]; omega) HB2.out.size ?_; intro v2 w3 ho2 hm2; rw [← HT2.out] at ho2; obtain ⟨a2, c2, rfl⟩ := owns_shape ho2; have HO2 : Hid (w3.ownsRow w.heap.size 5 1 (.slice a2 T2 c2) T2 ((tg ++ pcs ++ mo).map (Value.int .u8))) := ho2; have HB3 : Hid (Below w.heap.size w w3) := HB2.out.trans (hm2.below (fun k hk => (HO1.out.lt k hk).1) HB2.out.size); have k3 : w3.cell? ⟨pb, po + i * 3 + 2, none⟩ = some (.slice am MO cm) := (HB3.out.cell (p := ⟨pb, po + i * 3 + 2, none⟩) hpb).trans HCM.out; clear ho2 hm2))
          go_roundg (N - (i + 1))
          case measure => omega
          case rel =>
            have hT1 := HT1e.out
            have hT2 := HT2e.out
            refine ⟨i + 1, m + 1, l + MO, T2, tg ++ pcs ++ mo, a2, c2, rfl, by go_num, by go_num, by go_num, rfl, by omega, by omega, by omega, by omega, HT2.out, ⟨by rw [← HT2.out]; exact HO2.out, HB3.out, ?_, ?_⟩⟩
            · refine (HI.out.isB.append ?_).append hzm
              rw [HPC.out]; exact (hx.drop _).take _
            · obtain ⟨K, hK1, hK2⟩ := HI.out.cnt
              refine ⟨_, hK1.add pcs mo (by rw [← HPL.out]; omega) ⟨xs.take q, xs.drop (q + n), ?_⟩, ?_⟩
              · rw [HPC.out, List.append_assoc]
                have e1 : xs.drop q = (xs.drop q).take n ++ xs.drop (q + n) := by
                  rw [← List.drop_drop]; exact (List.take_append_drop n (xs.drop q)).symm
                rw [← e1, List.take_append_drop]
              · rw [List.length_append, List.length_append, fK_add_hi K _ _ (by rw [← HPL.out]; omega), ← HMO.out]
                omega
    · have hiI : ¬ (i : Int) < N := by omega
      go_wp2_with fail
      refine HMK.out.mono ?_
      rintro ev w3 ⟨pre, bg, v3, rfl, hcu, how3, hb3⟩
      obtain ⟨D, HD⟩ : ∃ D, Hid (D = mk xs tg pre bg) := ⟨_, rfl⟩
      have HDA : Hid (app xs D = some tg) := by show _ = _; rw [HD.out]; exact mk_app hcu HI.out.isB (by omega) (by rw [← HT.out]; omega)
      have HDZ : Hid (IsB D) := by show IsB D; rw [HD.out]; exact mk_isB hcu HI.out.isB (by omega) (by rw [← HT.out]; omega)
      have hDL : D.length ≤ 20 + 16 * m + 2 * l := by
        obtain ⟨K, hK1, hK2⟩ := HI.out.cnt
        have h1 := mk_moved hK1 (by omega) (by rw [← HT.out]; omega) hcu
        rw [HD.out]; omega
      rw [← HD.out] at how3
      obtain ⟨M, HM⟩ : ∃ M, Hid (M = D.length) := ⟨_, rfl⟩
      have hM : M ≤ 20 + 16 * m + 2 * l := by rw [HM.out]; exact hDL
      have hMi : (M : Int) ≤ 20 + 16 * (m : Int) + 2 * (l : Int) := by omega
      obtain ⟨ad, cd, rfl⟩ := slice_of how3
      have HD3 : Hid (Dg w3 wr.heap.size ad cd D) := dg_of how3
      have HB3 : Hid (Below wr.heap.size wr w3) := hb3
      have HB03 : Hid (Below w.heap.size w w3) := HI.out.bel.trans (HB3.out.mono HI.out.bel.size)
      clear how3 hb3 hcu hDL
      have HAP : Hid (Calls Tryd.prog 7 #[.slice (some ⟨b0, off0, none⟩) xs.length cap, .slice ad D.length cd] w3 (PostA w3 (app xs D))) := apply_any (some ⟨b0, off0, none⟩) ad cap cd xs D w3 HDZ.out (by omega) (by rw [← HM.out]; omega) (HX.out.below' HB03.out) HD3.out.sl
      rw [HDA.out] at HAP
      simp only [← HXL.out, ← HM.out] at HAP ⊢
      go_wp2_with fail
      refine HAP.out.mono ?_
      clear HAP
      rintro ev w4 ⟨hb4, v4, rfl, how4⟩
      have HB4 : Hid (Below w3.heap.size w3 w4) := hb4
      have HB04 : Hid (Below w.heap.size w w4) := HB03.out.trans (HB4.out.mono HB03.out.size)
      obtain ⟨av, cv, rfl⟩ := slice_of how4
      have HO4 : Hid (Got w4 w3.heap.size av tg) := got_of how4
      have HT4 : Hid (Sl w4 ta tc tg) := (HDG.out.sl.below' HB3.out).below' HB4.out
      clear how4 hb4
      have HSM : Hid (Calls Tryd.prog 13 #[.slice av tg.length cv, .slice ta tg.length tc] w4 fun e w' => e = .returned (.bool true) ∧ ∃ n, w' = w4.drewN n) := same_any av ta cv tc tg w4 (by rw [← HT.out]; omega) (fun h0 => by obtain ⟨g1, e1, _, _, e4⟩ := HO4.out.at_ h0; exact ⟨g1, 0, e1, e4⟩) (fun h0 => by obtain ⟨b, off, e1, e2, e3⟩ := HT4.out.at_ h0; exact ⟨b, off, e1, e3⟩)
      simp only [← HT.out] at HSM ⊢
      go_wp2_with fail
      refine HSM.out.mono ?_
      clear HSM
      rintro ev w5 ⟨rfl, q5, rfl⟩
      have HB05 : Hid (Below w.heap.size w (w4.drewN q5)) := ⟨HB04.out.os, HB04.out.tape, HB04.out.output, HB04.out.size, HB04.out.block⟩
      obtain ⟨w5, HW5⟩ : ∃ w5, Hid (w4.drewN q5 = w5) := ⟨_, rfl⟩
      rw [HW5.out] at HB05 ⊢
      go_wp2_with fail
      refine (tell_nil w5).mono ?_
      rintro ev w6 ⟨rfl, hb6⟩
      have HB06 : Hid (Below w.heap.size w w6) := HB05.out.trans (hb6.mono HB05.out.size)
      clear hb6
      go_wp2
      go_ret
      exact ⟨rfl, HB06.out⟩
end Go.Proofs.YtblegkefeiefjaaDoor
