import Derived.Test.YtijeogdnjeamaaaGreatDoorQo11
import Derived.Test.YtijeogdnjeamaaaGreatDoorQo10
namespace Go.Proofs.YtijeogdnjeamaaaGreatDoor
open Go.RowKit
set_option linter.unusedVariables false
set_option linter.unusedSimpArgs false
theorem Tryz.results103 : Tryz.f103.results = #[.cell 2 70, .tmp 3] := by kernel_rfl
def PostRr (t : Str) (w : World) (G : Nat) (e : Ending) (w' : World) : Prop :=
  Below G w w' ∧ ((∃ x, rr1 t = some x ∧ e = .returned (.tuple #[rfV x, .nilIface])) ∨ (rr1 t = none ∧ ∃ (y : Rf) (te : TypeId) (pe : Value), IdW y.2 ∧ e = .returned (.tuple #[rfV y, .iface te pe])))
theorem run_b70 (A : Str) (a : List Int) (ha : a.length = 20) (w : World) : (Instr.build 70 #[(0, .string ⟨A.toArray⟩), (1, idV a)]).run Tryz.prog w = .ok (.agg (encR (A, a)).toArray) w := by
  obtain ⟨a0, a1, a2, a3, a4, a5, a6, a7, a8, a9, a10, a11, a12, a13, a14, a15, a16, a17, a18, a19, rfl⟩ := list20 a ha
  kernel_rfl
theorem zrf_wf : IdW zrf.2 := zch_wf.1
set_option maxRecDepth 20000 in
set_option maxHeartbeats 2000000 in
theorem readRef_any {w : World} (t : Str) (hl : t.length ≤ 10000) (hm : Nm.Mx w) : Calls Tryz.prog 103 #[.string ⟨t.toArray⟩] w (PostRr t w w.heap.size) := by
  obtain ⟨G, HG⟩ : ∃ n, Hid (w.heap.size = n) := ⟨_, rfl⟩
  obtain ⟨zr, HZR⟩ : ∃ z : Array Value, Hid (z = (encR zrf).toArray) := ⟨_, hid rfl⟩
  have hzs : zr.size = 21 := by rw [HZR.out]; rfl
  have hz70 : ∀ w : World, (zeroValue 70).run Tryz.prog w = .ok (.agg zr) w := fun w => by rw [HZR.out]; exact zero70 w
  obtain ⟨z2, HZ2⟩ : ∃ z : Array Value, Hid (z = (row .u8 z20).toArray) := ⟨_, hid rfl⟩
  have hz2s : z2.size = 20 := by rw [HZ2.out]; rfl
  have hz68 : ∀ w : World, (zeroValue 68).run Tryz.prog w = .ok (.agg z2) w := fun w => by rw [HZ2.out]; exact zero68 w
  obtain ⟨w1, HW1⟩ : ∃ u, Hid (w.alloc (.cells zr 70) = u) := ⟨_, rfl⟩
  have hb1 : Below G w w1 := by rw [← HW1.out, ← HG.out]; exact (Below.refl _ w).alloc (Nat.le_refl _) _
  have hs1 : w1.heap.size = G + 1 := by rw [← HW1.out, ← HG.out]; exact size_alloc _ _
  have hn1 : w1.heap[G]? = some (.cells zr 70 (0, 0)) := by rw [← HW1.out, ← HG.out]; exact heap_alloc_new _ _
  obtain ⟨X, HX⟩ : ∃ X : ByteArray, Hid (⟨t.toArray⟩ = X) := ⟨_, hid rfl⟩
  obtain ⟨o, HO⟩ : ∃ u, Hid ((Lib.cut t [32]).1 = u) := ⟨_, rfl⟩
  obtain ⟨nm, HNM⟩ : ∃ u, Hid ((Lib.cut t [32]).2.1 = u) := ⟨_, rfl⟩
  obtain ⟨b0, HB0⟩ : ∃ u, Hid ((Lib.cut t [32]).2.2 = u) := ⟨_, rfl⟩
  obtain ⟨OB, HOB⟩ : ∃ X : ByteArray, Hid (⟨o.toArray⟩ = X) := ⟨_, hid rfl⟩
  obtain ⟨NM, HNMB⟩ : ∃ X : ByteArray, Hid (⟨nm.toArray⟩ = X) := ⟨_, hid rfl⟩
  have hol : o.length ≤ 10000 := by rw [← HO.out]; exact Nat.le_trans (cut_len t) hl
  have HS1 := hid hs1
  have HN1 := hid hn1
  have HB1 := hid hb1
  have CA : Hid (Calls Tryz.prog 122 #[.string X, .string ⟨#[32]⟩] w1 fun e w' => e = .returned (.tuple #[.string OB, .string NM, .bool b0]) ∧ Below w1.heap.size w1 w') := hid (by
    have hbw : Below w.heap.size w w1 := by rw [HG.out]; exact hb1
    have := cutStr t [32] (by omega) w1 (Mx_kept hm (grown_of_below hbw none) (by simp))
    rw [HO.out, HNM.out, HB0.out, HOB.out, HNMB.out, HX.out] at this
    exact this)
  have CO : Hid (∀ W, Calls Tryz.prog 123 #[.string OB] W (PostPr o W)) := hid (fun W => by rw [← HOB.out]; exact parseP o (by omega) W)
  have HST : Hid (∀ (w2 : World) (Y : List Value), Y.length = 21 → Below w1.heap.size w1 w2 → w2.there G 0 Y.toArray.size ∧ Below G w (w2.setCells G 0 Y.toArray.toList) ∧ (w2.setCells G 0 Y.toArray.toList).rangeAt G 0 Y) := hid (fun w2 Y hY hb => by
    have h2 : w2.heap[G]? = some (.cells zr 70 (0, 0)) := (hb.block G (by rw [HS1.out]; omega)).trans HN1.out
    have ht : w2.there G 0 Y.toArray.size := there_off h2 0 (by rw [List.size_toArray, hY, hzs]; omega)
    exact ⟨ht, below_setCells (Nat.le_refl _) _ _ _ _ (HB1.out.trans (hb.mono (by rw [HS1.out]; omega))), World.rangeAt_setCells_same _ _ 0 _ (by rwa [List.size_toArray] at ht)⟩)
  have HR1 : Hid (prs o = none → rr1 t = none) := hid (fun h => rr1_no (by rw [HO.out]; exact h))
  have HR3 : Hid (∀ a, prs o = some a → rr1 t = some (nm, a)) := hid (fun a h1 => by
    have := rr1_yes (t := t) (a := a) (by rw [HO.out]; exact h1)
    rw [HNM.out] at this
    exact this)
  have al1 : w.alloc (.cells zr 70) = w1 := HW1.out
  have hs0 : w.heap.size = G := HG.out
  rw [HX.out, HG.out]
  clear hb1 hs1 hn1 hm hl hol
  go_enter Tryz.func103, Tryz.ntmps103
  go_wp2_with fail
  refine CA.out.mono ?_
  rintro e w2 ⟨rfl, hb2⟩
  have HB2 := hid hb2
  clear hb2 al1 hs0
  go_wp2_with fail
  refine (CO.out w2).mono ?_
  rintro e w4 ⟨hb4, ho⟩
  have HB4 : Hid (Below w1.heap.size w1 w4) := hid (HB2.out.trans (hb4.mono HB2.out.size))
  clear hb4
  have hid1 : ∃ (x : List Int) (ev : Value), IdW x ∧ e = .returned (.tuple #[idV x, ev]) ∧ ((prs o = some x ∧ ev = .nilIface) ∨ (prs o = none ∧ ev = .iface 37 (.int .i64 12))) := by
    rcases ho with ⟨x, hx, rfl⟩ | ⟨hx, rfl⟩
    · exact ⟨x, _, (prs_wf hx).1, rfl, .inl ⟨hx, rfl⟩⟩
    · exact ⟨z20, _, zch_wf.1, rfl, .inr ⟨hx, rfl⟩⟩
  clear ho
  obtain ⟨x1, ev, hw1, rfl, hev⟩ := hid1
  obtain ⟨Y, HY⟩ : ∃ R : List Value, Hid (row .u8 x1 = R) := ⟨_, rfl⟩
  have HYL : Hid (Y.length = 20) := hid (by rw [← HY.out, row_len, hw1.1])
  have hiY : (Tryz.prog.info? 68).map (·.size) = some Y.length := by rw [HYL.out]; exact size68
  obtain ⟨P, HPP⟩ : ∃ P, Hid (w4.heap.size = P) := ⟨_, rfl⟩
  obtain ⟨w5, hw5, ht5, hb5, hr5⟩ := st_new w4 68 z2 Y (by rw [HYL.out, hz2s])
  obtain ⟨wa, HWA⟩ : ∃ W, Hid (w4.alloc (.cells z2 68) = W) := ⟨_, rfl⟩
  rw [HWA.out, HPP.out] at hw5 ht5
  rw [HPP.out] at hr5
  have HW5 := hid hw5
  have T1 := hid ht5
  have T2 : Hid ((Tryz.prog.info? 68).map (·.size) = some Y.toArray.size) := hid (by rw [List.size_toArray]; exact hiY)
  have T3 : Hid (Y.toArray.all (·.oneCell') = true) := hid (by rw [← HY.out]; exact all_oneCell_toArray (row_oneC _))
  have R5 := hid hr5
  have HB5 : Hid (Below w1.heap.size w1 w5) := hid (HB4.out.trans (hb5.mono HB4.out.size))
  obtain ⟨V, HV⟩ : ∃ R : List Value, Hid (encR (nm, x1) = R) := ⟨_, rfl⟩
  have HVL : Hid (V.length = 21) := hid (by rw [← HV.out]; exact encR_len hw1)
  have hiV : (Tryz.prog.info? 70).map (·.size) = some V.length := by rw [HVL.out]; exact size70
  obtain ⟨h1, h2, h3⟩ := HST.out w5 V HVL.out HB5.out
  have V1 := hid h1
  have V2 : Hid ((Tryz.prog.info? 70).map (·.size) = some V.toArray.size) := hid (by rw [List.size_toArray]; exact hiV)
  have V3 : Hid (V.toArray.all (·.oneCell') = true) := hid (by rw [← HV.out]; exact all_oneCell_toArray (encR_one _))
  have HB := hid h2
  have HRR := hid h3
  have hbd : ∀ W : World, (Instr.build 70 #[(0, .string NM), (1, .agg Y.toArray)]).run Tryz.prog W = .ok (.agg V.toArray) W := fun W => by
    rw [← HV.out, ← HNMB.out, ← HY.out]
    exact run_b70 nm x1 hw1.1 W
  have al2 : w4.alloc (.cells z2 68) = wa := HWA.out
  have hs2 : w4.heap.size = P := HPP.out
  have HXW := hid hw1
  unfold idV
  rw [HY.out]
  clear hw5 ht5 hb5 hr5 hw1 h1 h2 h3
  rcases hev with ⟨hp1, rfl⟩ | ⟨hp1, rfl⟩
  · have HRC : Hid (rr1 t = some (nm, x1)) := hid (HR3.out x1 hp1)
    clear hp1
    go_wp2_with (first
      | (refine wpList_load_mid rfl 68 _ rfl P 0 rfl Y _ R5.out Tryz.underlying68 rfl hiY ?_)
      | (refine wpList_store_mid rfl 68 _ _ rfl P 0 Y.toArray rfl rfl T1.out T2.out T3.out ?_; rw [HW5.out])
      | (refine wpList_build2 rfl 70 _ _ rfl (.string NM) (.agg Y.toArray) _ rfl rfl (hbd _) ?_)
      | (refine wpList_store_mid rfl 70 _ _ rfl G 0 V.toArray rfl rfl V1.out V2.out V3.out ?_)
      | fail)
    refine bodyPost_ret (Hx.results_mid2 (t2 := 27) Tryz.results103 _ _ G V _ _ rfl rfl HRR.out Tryz.underlying70 rfl hiV) rfl ?_
    exact ⟨HB.out, .inl ⟨_, HRC.out, by unfold rfV; rw [HV.out]; rfl⟩⟩
  · have HRC : Hid (rr1 t = none) := hid (HR1.out hp1)
    clear hp1
    go_wp2_with (first
      | (refine wpList_load_mid rfl 68 _ rfl P 0 rfl Y _ R5.out Tryz.underlying68 rfl hiY ?_)
      | (refine wpList_store_mid rfl 68 _ _ rfl P 0 Y.toArray rfl rfl T1.out T2.out T3.out ?_; rw [HW5.out])
      | (refine wpList_build2 rfl 70 _ _ rfl (.string NM) (.agg Y.toArray) _ rfl rfl (hbd _) ?_)
      | (refine wpList_store_mid rfl 70 _ _ rfl G 0 V.toArray rfl rfl V1.out V2.out V3.out ?_)
      | fail)
    refine bodyPost_ret (Hx.results_mid2 (t2 := 27) Tryz.results103 _ _ G V _ _ rfl rfl HRR.out Tryz.underlying70 rfl hiV) rfl ?_
    exact ⟨HB.out, .inr ⟨HRC.out, (nm, x1), 37, .int .i64 12, HXW.out, by unfold rfV; rw [HV.out]; rfl⟩⟩
def PostRLr (ts : List Str) (w : World) (G : Nat) (e : Ending) (w' : World) : Prop :=
  ∃ v u, BRf w w' G v (rdR ts).1 ∧ e = .returned (.tuple #[v, u])
theorem Tryz.results102 : Tryz.f102.results = #[.tmp 4, .tmp 5] := by kernel_rfl
theorem info70 : (Tryz.prog.info? 70).map (fun i => (i.zero, i.size, i.bytes)) = some (some (.agg (encR zrf).toArray), 21, 40) := by kernel_rfl
theorem run_b22 (x : Rf) (h : IdW x.2) (w : World) : (Instr.buildSlice 22 1 #[(0, rfV x)]).run Tryz.prog w = .ok (.slice (some ⟨w.heap.size, 0, none⟩) 1 1) (w.alloc (.cells (encR x).toArray 70)) := by
  obtain ⟨i, hq, hz, hs, _⟩ := info_parts info70
  refine run_buildSlice w 22 70 1 _ (encR x).toArray i _ Tryz.underlying22 hq hz (by rw [hs]; decide) (by rw [hs]; decide) ?_
  rw [hs]
  obtain ⟨A, a⟩ := x
  obtain ⟨a0, a1, a2, a3, a4, a5, a6, a7, a8, a9, a10, a11, a12, a13, a14, a15, a16, a17, a18, a19, rfl⟩ := list20 a h.1
  kernel_rfl
theorem prf_one (w : World) (x : Rf) (e : TypeId) : PRf (w.alloc (.cells (encR x).toArray e)) (some ⟨w.heap.size, 0, none⟩) 1 [x] :=
  ⟨Nat.le_refl _, fun _ => ⟨w.heap.size, 0, rfl, by simp, fun i hi j v hv => by
    obtain rfl : i = 0 := by simpa using hi
    have := range_row (heap_alloc_new w (.cells (encR x).toArray e)) j v hv
    simpa using this⟩, fun h => by cases h⟩
set_option maxRecDepth 20000 in
set_option maxHeartbeats 4000000 in
theorem readListR_any {w : World} (a : Option Addr) (cap : Nat) (ts : List Str) (hP : PS w a cap ts) (hn : ts.length ≤ 20000) (hl : ∀ t ∈ ts, t.length ≤ 10000) (hm : Nm.Mx w) :
    Calls Tryz.prog 102 #[.slice a ts.length cap, .func (.func 103) #[] #[]] w (PostRLr ts w w.heap.size) := by
  obtain ⟨G, HG⟩ : ∃ n, Hid (w.heap.size = n) := ⟨_, rfl⟩
  obtain ⟨m, HM⟩ : ∃ n, Hid (ts.length = n) := ⟨_, rfl⟩
  have hm2 : m ≤ 20000 := by rw [← HM.out]; exact hn
  obtain ⟨zr, HZR⟩ : ∃ z : Array Value, Hid (z = (encR zrf).toArray) := ⟨_, hid rfl⟩
  have hzs : zr.size = 21 := by rw [HZR.out, List.size_toArray]; exact encR_len zrf_wf
  have hz70 : ∀ w : World, (zeroValue 70).run Tryz.prog w = .ok (.agg zr) w := fun w => by rw [HZR.out]; exact zero70 w
  have HPS : Hid (∀ W, Below G w W → PS W a cap ts) := hid (fun W hW => hP.below (by rw [HG.out]; exact hW))
  have HPL : Hid (0 < m → ∃ b off, a = some ⟨b, off, none⟩) := hid (fun h => by
    obtain ⟨b, off, e1, _⟩ := hP.at_ (by rw [HM.out]; exact h)
    exact ⟨b, off, e1⟩)
  have HTL := hid hl
  have CF : Hid (∀ (W : World) (t : Str) (X : ByteArray), Hid (⟨t.toArray⟩ = X) → t.length ≤ 10000 → Below G w W → Calls Tryz.prog 103 #[.string X] W (PostRr t W W.heap.size)) := hid (fun W t X hX ht hW => by
    rw [← hX.out]
    exact readRef_any t ht (Mx_kept hm (grown_of_below (by rw [HG.out]; exact hW) none) (by simp)))
  have HE0 : Hid (BRf w w G (.slice none 0 0) []) := hid (bx_nil 70 w G (by rw [HG.out]; exact Nat.le_refl _))
  have HGS : Hid (∀ W, Below G w W → G ≤ W.heap.size) := hid (fun W hW => by have := hW.size; have := HG.out; omega)
  rw [HM.out, HG.out]
  clear hP hn hl hm
  go_enter Tryz.func102, Tryz.ntmps102
  go_wp2_with fail
  go_loopg [4, 12] m (fun gg lv iv wr => ∃ (i : Nat) (L : List Rf), i ≤ m ∧ gg = m - i ∧ iv = .int .i64 i ∧ Hid (BRf w wr G lv L) ∧ Hid (L.length = i) ∧ Hid ((rdR ts).1 = L ++ (rdR (ts.drop i)).1))
  case atStart => exact ⟨0, [], Nat.zero_le _, rfl, rfl, HE0, hid rfl, hid (by simp)⟩
  case round =>
    obtain ⟨i, L, hi, hk, rfl, HBE, HLL, HRD⟩ := hrel
    by_cases hlt : i < m
    · have hlti : (i : Int) < (m : Int) := by omega
      obtain ⟨b, off, rfl⟩ := HPL.out (by omega)
      have hil : i < ts.length := by rw [HM.out]; exact hlt
      obtain ⟨t, HT⟩ : ∃ x, Hid (ts.getD i [] = x) := ⟨_, rfl⟩
      obtain ⟨X, HX⟩ : ∃ X : ByteArray, Hid (⟨t.toArray⟩ = X) := ⟨_, hid rfl⟩
      have kc : wr.cell? ⟨b, off + i, none⟩ = some (.string X) := by
        obtain ⟨b', off', e1, _, e3⟩ := (HPS.out wr HBE.out.below).at_ (by omega)
        cases e1
        have := e3 i hil 0 _ rfl
        rw [show off + i * 1 + 0 = off + i by omega, HT.out, sV_out, HX.out] at this
        exact this
      have HDR : Hid (ts.drop i = t :: ts.drop (i + 1)) := hid (by rw [drop_at ts i hil, HT.out])
      have CC := hid (CF.out wr t X HX (by rw [← HT.out]; exact HTL.out _ (getD_mem ts i [] hil)) HBE.out.below)
      clear hil
      go_wp2_with fail
      refine CC.out.mono ?_
      rintro e w2 ⟨hb2, ⟨x, hx, rfl⟩ | ⟨hx, y, te, pe, hyw, rfl⟩⟩
      · obtain ⟨Y, HY⟩ : ∃ R : List Value, Hid (encR x = R) := ⟨_, rfl⟩
        have hxw := (rr1_wf hx).1
        have HYL : Hid (Y.length = 21) := hid (by rw [← HY.out]; exact encR_len hxw)
        have hiY : (Tryz.prog.info? 70).map (·.size) = some Y.length := by rw [HYL.out]; exact size70
        obtain ⟨P, HPP⟩ : ∃ P, Hid (w2.heap.size = P) := ⟨_, rfl⟩
        obtain ⟨w3, hw3, ht3, hb3, hr3⟩ := st_new w2 70 zr Y (by rw [HYL.out, hzs])
        obtain ⟨wa, HWA⟩ : ∃ W, Hid (w2.alloc (.cells zr 70) = W) := ⟨_, rfl⟩
        rw [HWA.out, HPP.out] at hw3 ht3
        rw [HPP.out] at hb3 hr3
        have HW3 := hid hw3
        have T1 : Hid (wa.there P 0 Y.toArray.size) := hid ht3
        have R3 := hid hr3
        have T2 : Hid ((Tryz.prog.info? 70).map (·.size) = some Y.toArray.size) := hid (by rw [List.size_toArray]; exact hiY)
        have T3 : Hid (Y.toArray.all (·.oneCell') = true) := hid (by rw [← HY.out]; exact all_oneCell_toArray (encR_one _))
        have HB3 : Hid (BRf w w3 G u4 L) := hid (Bx.carry (Bx.carry HBE.out hb2) (by rw [HPP.out]; exact hb3))
        obtain ⟨K7, HK7⟩ : ∃ K, Hid (w3.heap.size = K) := ⟨_, rfl⟩
        obtain ⟨wq, HWQ⟩ : ∃ W, Hid (w3.alloc (.cells Y.toArray 70) = W) := ⟨_, rfl⟩
        have HBLD : Hid ((Instr.buildSlice 22 1 #[(0, .agg Y.toArray)]).run Tryz.prog w3 = .ok (.slice (some ⟨K7, 0, none⟩) 1 1) wq) := hid (by rw [← HK7.out, ← HWQ.out]; rw [← HY.out]; exact run_b22 x hxw w3)
        have HV7 : Hid (BRf w wq G u4 L) := hid (by rw [← HWQ.out]; exact Bx.alloc HB3.out _)
        have HP8 : Hid (PRf wq (some ⟨K7, 0, none⟩) 1 [x]) := hid (by
          have := prf_one w3 x 70
          rw [HY.out, HK7.out] at this
          rw [← HWQ.out]
          exact this)
        have HONE : Hid (∀ y ∈ [x], (encR y).length = 21) := hid (fun y hy => by rw [List.mem_singleton.1 hy]; exact encR_len hxw)
        have HSUM : Hid (L.length + [x].length ≤ 30000) := hid (by rw [HLL.out]; simp only [List.length_cons, List.length_nil]; omega)
        have HRD2 : Hid ((rdR ts).1 = (L ++ [x]) ++ (rdR (ts.drop (i + 1))).1) := hid (by
          rw [HRD.out, HDR.out, rdR_some hx]
          simp)
        have al1 : w2.alloc (.cells zr 70) = wa := HWA.out
        have hsP : w2.heap.size = P := HPP.out
        unfold rfV
        rw [HY.out]
        clear hw3 ht3 hb3 hr3 hb2 hx hxw
        go_wp2_with (first
          | (refine wpList_load_mid rfl 70 _ rfl P 0 rfl Y _ R3.out Tryz.underlying70 rfl hiY ?_)
          | (refine wpList_store_mid rfl 70 _ _ rfl P 0 Y.toArray rfl rfl T1.out T2.out T3.out ?_; rw [HW3.out])
          | refine wpList_bS rfl 22 1 _ rfl (.agg Y.toArray) _ rfl HBLD.out ?_
          | (refine wpList_bx_sl (enc := encR) (k := 21) (d := rf0) rfl _ _ 22 70 Tryz.underlying22 info70 rfl (by decide) (by decide) encR_one rfl G u4 L rfl HV7.out (some ⟨K7, 0, none⟩) 1 [x] rfl HP8.out HONE.out HSUM.out ?_; intro v8 w8 hb8 hg8)
          | fail)
        have HB8 : Hid (BRf w w8 G v8 (L ++ [x])) := hid hb8
        have HL8 : Hid ((L ++ [x]).length = i + 1) := hid (by rw [List.length_append, HLL.out]; rfl)
        clear hb8 hg8
        try go_wp2
        go_roundg (m - (i + 1))
        case measure => omega
        case rel => exact ⟨i + 1, L ++ [x], by omega, rfl, by go_num, HB8, HL8, HRD2⟩
      · obtain ⟨Y, HY⟩ : ∃ R : List Value, Hid (encR y = R) := ⟨_, rfl⟩
        have HYL : Hid (Y.length = 21) := hid (by rw [← HY.out]; exact encR_len hyw)
        have hiY : (Tryz.prog.info? 70).map (·.size) = some Y.length := by rw [HYL.out]; exact size70
        obtain ⟨P, HPP⟩ : ∃ P, Hid (w2.heap.size = P) := ⟨_, rfl⟩
        obtain ⟨w3, hw3, ht3, hb3, hr3⟩ := st_new w2 70 zr Y (by rw [HYL.out, hzs])
        obtain ⟨wa, HWA⟩ : ∃ W, Hid (w2.alloc (.cells zr 70) = W) := ⟨_, rfl⟩
        rw [HWA.out, HPP.out] at hw3 ht3
        rw [HPP.out] at hb3 hr3
        have HW3 := hid hw3
        have T1 : Hid (wa.there P 0 Y.toArray.size) := hid ht3
        have T2 : Hid ((Tryz.prog.info? 70).map (·.size) = some Y.toArray.size) := hid (by rw [List.size_toArray]; exact hiY)
        have T3 : Hid (Y.toArray.all (·.oneCell') = true) := hid (by rw [← HY.out]; exact all_oneCell_toArray (encR_one _))
        have hbd : Below w3.heap.size w3 w3.drew := ⟨rfl, rfl, rfl, Nat.le_refl _, fun _ _ => rfl⟩
        have HB3 : Hid (BRf w w3.drew G u4 L) := hid (Bx.carry (Bx.carry (Bx.carry HBE.out hb2) (by rw [HPP.out]; exact hb3)) hbd)
        have HRD2 : Hid ((rdR ts).1 = L) := hid (by
          rw [HRD.out, HDR.out, rdR_none hx]
          simp)
        obtain ⟨aa, HAA⟩ : ∃ x, Hid (adX 1 (some ⟨b, off, none⟩) cap i = x) := ⟨_, rfl⟩
        obtain ⟨ca, HCA⟩ : ∃ x : Nat, Hid (cap - i = x) := ⟨_, rfl⟩
        obtain ⟨na, HNA⟩ : ∃ x : Nat, Hid (m - i = x) := ⟨_, rfl⟩
        have hsl : ∀ W : World, (Instr.slice 63 (.slice (some ⟨b, off, none⟩) m cap) (some (.int .i64 i)) none none).run Tryz.prog W = .ok (.slice aa na ca) W := fun W => by
          rw [← HAA.out, ← HCA.out, ← HNA.out]
          exact sl63l _ m cap i (by omega) W
        have al1 : w2.alloc (.cells zr 70) = wa := HWA.out
        have hsP : w2.heap.size = P := HPP.out
        unfold rfV
        rw [HY.out]
        clear hw3 ht3 hb3 hr3 hb2 hx hbd hyw
        go_wp2_with (first
          | (refine wpList_store_mid rfl 70 _ _ rfl P 0 Y.toArray rfl rfl T1.out T2.out T3.out ?_; rw [HW3.out])
          | fail)
        refine wp_region_held_drew (S := fun _ => True) (by kernel_rfl) trivial (fun hHeld => ?_)
        generalize w3.drew = w4 at hHeld HB3 ⊢
        refine takeL (i := 0) (v := ?_) rfl (by kernel_rfl) (by kernel_rfl) (by kernel_rfl) (fun _ _ _ h => h) (Or.inl ⟨by rfl, ?_⟩) hHeld ?_
        rotate_left
        · rintro w' _; go_simp; rfl
        try simp only [Act.put, List.setIfInBounds_toArray, List.set_cons_zero, List.set_cons_succ]
        refine takeL (i := 1) (v := ?_) rfl (by kernel_rfl) (by kernel_rfl) (by kernel_rfl) (fun _ _ _ h => h) (Or.inl ⟨by rfl, ?_⟩) hHeld ?_
        rotate_left
        · rintro w' _; go_simp; rfl
        try simp only [Act.put, List.setIfInBounds_toArray, List.set_cons_zero, List.set_cons_succ]
        refine takeL (i := 2) (v := ?_) rfl (by kernel_rfl) (by kernel_rfl) (by kernel_rfl) (fun _ _ _ h => h) (Or.inl ⟨by rfl, ?_⟩) hHeld ?_
        rotate_left
        · rintro w' _; go_simp; rfl
        try simp only [Act.put, List.setIfInBounds_toArray, List.set_cons_zero, List.set_cons_succ]
        refine takeL (i := 3) (v := ?_) rfl (by kernel_rfl) (by kernel_rfl) (by kernel_rfl) (fun _ _ _ h => h) (Or.inl ⟨by rfl, ?_⟩) hHeld ?_
        rotate_left
        · rintro w' _; go_simp; rfl
        try simp only [Act.put, List.setIfInBounds_toArray, List.set_cons_zero, List.set_cons_succ]
        refine takeL (i := 4) (v := ?_) rfl (by kernel_rfl) (by kernel_rfl) (by kernel_rfl) (fun _ _ _ h => h) (Or.inl ⟨by rfl, ?_⟩) hHeld ?_
        rotate_left
        · rintro w' _; go_simp; rfl
        try simp only [Act.put, List.setIfInBounds_toArray, List.set_cons_zero, List.set_cons_succ]
        refine takeL (i := 5) (v := ?_) rfl (by kernel_rfl) (by kernel_rfl) (by kernel_rfl) (fun _ _ _ h => h) (Or.inl ⟨by rfl, ?_⟩) hHeld ?_
        rotate_left
        · rintro w' _; go_simp; rfl
        try simp only [Act.put, List.setIfInBounds_toArray, List.set_cons_zero, List.set_cons_succ]
        refine wpAnyH_done (by kernel_rfl) ?_ _
        clear hHeld
        go_wp2
        refine bodyPost_ret (results_tmp2 Tryz.results102 _ _ _) rfl ?_
        unfold PostRLr
        rw [HRD2.out]
        exact ⟨_, _, HB3.out, rfl⟩
    · have hlti : ¬ (i : Int) < (m : Int) := by omega
      have HRD2 : Hid ((rdR ts).1 = L) := hid (by
        rw [HRD.out, List.drop_of_length_le (by rw [HM.out]; omega)]
        simp [rdR])
      go_wp2
      refine bodyPost_ret (results_tmp2 Tryz.results102 _ _ _) rfl ?_
      unfold PostRLr
      rw [HRD2.out]
      exact ⟨_, _, HBE.out, rfl⟩
end Go.Proofs.YtijeogdnjeamaaaGreatDoor
namespace Go.Proofs.YtijeogdnjeamaaaGreatDoor
open Go.RowKit
set_option linter.unusedVariables false
set_option linter.unusedSimpArgs false
def Bx2 (W : World) (B : Nat) (t : TypeId) (u v : Value) : Prop := W.heap[B]? = some (.cells #[u, v] t (0, 0))
theorem Bx2.lt {W : World} {B : Nat} {t : TypeId} {u v : Value} (h : Bx2 W B t u v) : B < W.heap.size := (Array.getElem?_eq_some_iff.1 h).1
theorem Bx2.c0 {W : World} {B : Nat} {t : TypeId} {u v : Value} (h : Bx2 W B t u v) : W.cell? ⟨B, 0, none⟩ = some u := by simp [World.cell?, show W.heap[B]? = _ from h]
theorem Bx2.c1 {W : World} {B : Nat} {t : TypeId} {u v : Value} (h : Bx2 W B t u v) : W.cell? ⟨B, 1, none⟩ = some v := by simp [World.cell?, show W.heap[B]? = _ from h]
theorem Bx2.f0 {W : World} {B : Nat} {t : TypeId} {u v : Value} (h : Bx2 W B t u v) : W.frozen? ⟨B, 0, none⟩ = false := by simp [World.frozen?, show W.heap[B]? = _ from h]
theorem Bx2.f1 {W : World} {B : Nat} {t : TypeId} {u v : Value} (h : Bx2 W B t u v) : W.frozen? ⟨B, 1, none⟩ = false := by simp [World.frozen?, show W.heap[B]? = _ from h]
theorem Bx2.new (W : World) (t : TypeId) (u v : Value) : Bx2 (W.alloc (.cells #[u, v] t)) W.heap.size t u v := World.alloc_heap_new W _
theorem Bx2.kept {W W' : World} {row : Option Nat} {B : Nat} {t : TypeId} {u v : Value} (h : Bx2 W B t u v) (hg : W.grownBy W' row) (hne : some B ≠ row) : Bx2 W' B t u v := (hg.block B h.lt hne).trans h
theorem Bx2.below {W W' : World} {B : Nat} {t : TypeId} {u v : Value} (h : Bx2 W B t u v) (hb : Below W.heap.size W W') : Bx2 W' B t u v := (hb.block B h.lt).trans h
theorem Bx2.set0 {W : World} {B : Nat} {t : TypeId} {u v : Value} (x : Value) (h : Bx2 W B t u v) : Bx2 (W.setCell ⟨B, 0, none⟩ x) B t x v := by
  obtain ⟨hlt, hk⟩ := Array.getElem?_eq_some_iff.1 h
  show (W.heap.modify B _)[B]? = _
  rw [Array.getElem?_eq_getElem (by rw [Array.size_modify]; exact hlt), Array.getElem_modify_self, hk]
  rfl
theorem Bx2.set1 {W : World} {B : Nat} {t : TypeId} {u v : Value} (x : Value) (h : Bx2 W B t u v) : Bx2 (W.setCell ⟨B, 1, none⟩ x) B t u x := by
  obtain ⟨hlt, hk⟩ := Array.getElem?_eq_some_iff.1 h
  show (W.heap.modify B _)[B]? = _
  rw [Array.getElem?_eq_getElem (by rw [Array.size_modify]; exact hlt), Array.getElem_modify_self, hk]
  rfl
theorem grown_set1 (W : World) (b o : Nat) (v : Value) : W.grownBy (W.setCell ⟨b, o, none⟩ v) (some b) :=
  ⟨rfl, rfl, rfl, (KeepsWalks.setCell W _ v).size, fun k _ hk => Below.heap_setCell _ _ _ k (fun e => hk (by rw [e]))⟩
theorem Bx2.st0 {W : World} {B : Nat} {t : TypeId} {u v : Value} (x : Value) (hx : x.oneCell' = true) (h : Bx2 W B t u v) : (store ⟨B, 0, none⟩ x).run Tryz.prog W = .ok () (W.setCell ⟨B, 0, none⟩ x) := by
  rw [run_store _ _ _ _ _ hx, h.c0]
  simp [h.f0]
theorem Bx2.st1 {W : World} {B : Nat} {t : TypeId} {u v : Value} (x : Value) (hx : x.oneCell' = true) (h : Bx2 W B t u v) : (store ⟨B, 1, none⟩ x).run Tryz.prog W = .ok () (W.setCell ⟨B, 1, none⟩ x) := by
  rw [run_store _ _ _ _ _ hx, h.c1]
  simp [h.f1]
theorem Bx2.put {W : World} {B : Nat} {t : TypeId} {u v : Value} (h : Bx2 W B t u v) (x y : Value) : ∃ W', W.setCells B 0 (#[x, y] : Array Value).toList = W' ∧ W.there B 0 (#[x, y] : Array Value).size ∧ W.grownBy W' (some B) ∧ W'.rangeAt B 0 [x, y] := by
  have ht : W.there B 0 (#[x, y] : Array Value).size := there_off h 0 (by simp)
  exact ⟨_, rfl, ht, grown_setCells B _ 0 W W (World.grownBy.refl _ _), World.rangeAt_setCells_same _ _ 0 _ (by simpa using ht)⟩
theorem size24 : (Tryz.prog.info? 24).map (·.size) = some 2 := by kernel_rfl
theorem und24 : ∃ d, Tryz.prog.underlying 24 = some d ∧ d.isRow = true := ⟨_, Tryz.underlying24, rfl⟩
theorem Tryz.results67 : Tryz.f67.results = #[.cell 2 24] := by kernel_rfl
def PostRo (ts : List Str) (w : World) (G : Nat) (e : Ending) (w' : World) : Prop :=
  ∃ a c, e = .returned (.agg #[.string ⟨(rdO ts).1.toArray⟩, .slice a (rdO ts).2.length c]) ∧ BRf w w' G (.slice a (rdO ts).2.length c) (rdO ts).2
theorem pre_take (t : Str) : Lib.hasPrefix t hWo = decide (t.take 5 = hWo) := by
  unfold Lib.hasPrefix
  by_cases h : t.take 5 = hWo
  · rw [decide_eq_true h]
    rw [List.isPrefixOf_iff_prefix]
    exact ⟨t.drop 5, by rw [← h]; exact List.take_append_drop _ _⟩
  · rw [decide_eq_false h]
    rw [Bool.eq_false_iff]
    intro hp
    exact h (List.prefix_iff_eq_take.1 (List.isPrefixOf_iff_prefix.1 hp)).symm
set_option maxRecDepth 20000 in
set_option maxHeartbeats 2000000 in
theorem readOffer_any {w : World} (a : Option Addr) (cap : Nat) (ts : List Str) (hP : PS w a cap ts) (hn : ts.length ≤ 20000) (hl : ∀ t ∈ ts, t.length ≤ 10000) (hm : Nm.Mx w) :
    Calls Tryz.prog 67 #[.slice a ts.length cap] w (PostRo ts w w.heap.size) := by
  obtain ⟨G, HG⟩ : ∃ n, Hid (w.heap.size = n) := ⟨_, rfl⟩
  obtain ⟨m, HM⟩ : ∃ n, Hid (ts.length = n) := ⟨_, rfl⟩
  obtain ⟨w1, HW1⟩ : ∃ u, Hid (w.alloc (.cells #[.string ⟨#[]⟩, .slice none 0 0] 24) = u) := ⟨_, rfl⟩
  have hs1 : w1.heap.size = G + 1 := by rw [← HW1.out, ← HG.out]; exact size_alloc _ _
  obtain ⟨w2, HW2⟩ : ∃ u, Hid (w1.alloc (.cells #[.string ⟨#[]⟩, .slice none 0 0] 24) = u) := ⟨_, rfl⟩
  have hs2 : w2.heap.size = G + 1 + 1 := by rw [← HW2.out, ← hs1]; exact size_alloc _ _
  have hb1 : Below G w w1 := by rw [← HW1.out, ← HG.out]; exact (Below.refl _ w).alloc (Nat.le_refl _) _
  have hb12 : Below w1.heap.size w1 w2 := by rw [← HW2.out]; exact (Below.refl _ w1).alloc (Nat.le_refl _) _
  have hb2 : Below G w w2 := hb1.trans (hb12.mono (by omega))
  have hx0 : Bx2 w2 G 24 (.string ⟨#[]⟩) (.slice none 0 0) := by
    have : Bx2 w1 G 24 (.string ⟨#[]⟩) (.slice none 0 0) := by rw [← HW1.out, ← HG.out]; exact Bx2.new _ _ _ _
    exact this.below hb12
  have hx1 : Bx2 w2 (G + 1) 24 (.string ⟨#[]⟩) (.slice none 0 0) := by rw [← HW2.out, ← hs1]; exact Bx2.new _ _ _ _
  have HPS : Hid (∀ W, Below G w W → PS W a cap ts) := hid (fun W hW => hP.below (by rw [HG.out]; exact hW))
  have HMX : Hid (∀ W, Below G w W → Nm.Mx W) := hid (fun W hW => Mx_kept hm (grown_of_below (by rw [HG.out]; exact hW) none) (by simp))
  have HL := hid hl
  have C102 : Hid (∀ (W : World) (b : Option Addr) (c k : Nat) (us : List Str), Below G w W → Hid (us.length = k) → PS W b c us → us.length ≤ 20000 → (∀ t ∈ us, t.length ≤ 10000) → Calls Tryz.prog 102 #[.slice b k c, .func (.func 103) #[] #[]] W (PostRLr us W W.heap.size)) := hid (fun W b c k us hW hk h1 h2 h3 => by
    rw [← hk.out]
    exact readListR_any b c us h1 h2 h3 (HMX.out W hW))
  have HB2 := hid hb2
  have HS2 := hid hs2
  have HX0 := hid hx0
  have HX1 := hid hx1
  have HNN := hid hn
  obtain ⟨d, hd1, hd2⟩ := und24
  have HD1 := hid hd1
  have HD2 := hid hd2
  have al1 : w.alloc (.cells #[.string ⟨#[]⟩, .slice none 0 0] 24) = w1 := HW1.out
  have al2 : w1.alloc (.cells #[.string ⟨#[]⟩, .slice none 0 0] 24) = w2 := HW2.out
  have hs0 : w.heap.size = G := HG.out
  rw [HM.out, HG.out]
  clear hP hn hl hm hb1 hb12 hb2 hx0 hx1 hs2 hd1 hd2
  cases ts with
  | nil =>
    have hmi : ¬ (0 : Int) < (m : Int) := by have : 0 = m := HM.out; omega
    have HRO : Hid (rdO [] = ([], (rdR []).1)) := hid rfl
    have CR := hid (C102.out w2 a cap m [] HB2.out HM (HPS.out w2 HB2.out) HNN.out HL.out)
    go_enter Tryz.func67, Tryz.ntmps67
    go_wp2_with fail
    refine CR.out.mono ?_
    rintro e w4 ⟨v, uu, hbx, rfl⟩
    have hsW : w2.heap.size = G + 1 + 1 := HS2.out
    obtain ⟨av, cv, rfl, _⟩ := hbx.px (d := rf0) (encR_ln (fun y hy => (rdR_wf 10000 _ (by first | exact HL.out | (intro u hu; exact HL.out u (by simp [hu]))) y hy).1))
    obtain ⟨kl, HKL⟩ : ∃ n, Hid ((rdR []).1.length = n) := ⟨_, rfl⟩
    rw [HKL.out] at hbx
    rw [HKL.out]
    have h40 := Bx2.below (HX0.out) (by have := hbx.below; exact this)
    have h41 := Bx2.below (HX1.out) (by have := hbx.below; exact this)
    have hst1 := h41.st1 (.slice av kl cv) rfl
    have hcs1 := h41.c1
    have hfs1 := h41.f1
    obtain ⟨w5, HW5⟩ : ∃ u, Hid (w4.setCell ⟨G + 1, 1, none⟩ (.slice av kl cv) = u) := ⟨_, rfl⟩
    have h51 : Bx2 w5 (G + 1) 24 (.string ⟨#[]⟩) (.slice av kl cv) := by rw [← HW5.out]; exact h41.set1 _
    have hg5 : w4.grownBy w5 (some (G + 1)) := by rw [← HW5.out]; exact grown_set1 _ _ _ _
    have h50 : Bx2 w5 G 24 (.string ⟨#[]⟩) (.slice none 0 0) := h40.kept hg5 (fun e => by cases e)
    rw [HW5.out] at hst1
    obtain ⟨w6, hw6, ht6, hg6, hr6⟩ := h50.put (.string ⟨#[]⟩) (.slice av kl cv)
    have R5 : Hid (w5.rangeAt (G + 1) 0 [.string ⟨#[]⟩, .slice av kl cv]) := hid (range_row h51)
    have T1 := hid ht6
    have T2 : Hid ((Tryz.prog.info? 24).map (·.size) = some (#[.string ⟨#[]⟩, .slice av kl cv] : Array Value).size) := hid size24
    have T3 : Hid ((#[.string ⟨#[]⟩, .slice av kl cv] : Array Value).all (·.oneCell') = true) := hid (by simp [Value.oneCell'])
    have HW6 := hid hw6
    have R6 := hid hr6
    have HBF : Hid (BRf w w6 G (.slice av kl cv) (rdR []).1) := hid (by
      have h1 := own_keep (own_keep hbx.own hg5 (fun j e => by cases e; rw [hsW]; omega)) hg6 (fun j e => by cases e; rw [hsW]; omega)
      have e1 := hbx.below.size
      have e2 := hg5.size
      have e3 := hg6.size
      have hbw : Below G w w4 := (HB2.out).trans (hbx.below.mono (by rw [hsW]; omega))
      refine ⟨(hbw.grown hg5 (by omega) (fun k e => by cases e; omega)).grown hg6 (by omega) (fun k e => by cases e; omega), base_mono h1 (by rw [hsW]; omega), by omega⟩)
    have al5 : w4.setCell ⟨G + 1, 1, none⟩ (.slice av kl cv) = w5 := HW5.out
    clear hbx h40 h41 h50 h51 hg5 hg6 hr6 hw6 ht6
    go_wp2_with (first
      | (refine wpList_load_mid rfl 24 _ rfl (G + 1) 0 rfl [.string ⟨#[]⟩, .slice av kl cv] d R5.out HD1.out HD2.out size24 ?_)
      | (refine wpList_store_mid rfl 24 _ _ rfl G 0 #[.string ⟨#[]⟩, .slice av kl cv] rfl rfl T1.out T2.out T3.out ?_; rw [HW6.out])
      | fail)
    refine bodyPost_ret (results_cell Tryz.results67 _ _ G [.string ⟨#[]⟩, .slice av kl cv] d rfl R6.out HD1.out HD2.out size24) rfl ?_
    unfold PostRo
    rw [HRO.out]
    simp only
    rw [HKL.out]
    exact ⟨av, cv, rfl, HBF.out⟩
  | cons t us =>
    have hm0 : 0 < m := by rw [← HM.out]; simp
    have hmi : (0 : Int) < (m : Int) := by omega
    obtain ⟨b, off, ha⟩ : ∃ b off, a = some ⟨b, off, none⟩ := by
      obtain ⟨b, off, e1, _⟩ := (HPS.out w2 HB2.out).at_ (by simp)
      exact ⟨b, off, e1⟩
    subst ha
    obtain ⟨X, HX⟩ : ∃ X : ByteArray, Hid (⟨t.toArray⟩ = X) := ⟨_, hid rfl⟩
    have HKC : Hid (∀ W, Below G w W → W.cell? ⟨b, off, none⟩ = some (.string X)) := hid (fun W hW => by
      obtain ⟨b', off', e1, _, e3⟩ := (HPS.out W hW).at_ (by simp)
      cases e1
      have := e3 0 (by simp) 0 _ rfl
      rw [show off + 0 * 1 + 0 = off by omega] at this
      rw [← HX.out]
      exact this)
    have C89 : Hid (∀ W, Calls Tryz.prog 89 #[.string X, .string ⟨#[104, 101, 97, 100, 32]⟩] W fun e w' => e = .returned (.bool (decide (t.take 5 = hWo))) ∧ w' = W) := hid (fun W => by
      have := Nm.hasPrefix_any t hWo W
      rw [pre_take, HX.out] at this
      exact this)
    have C101 : Hid (∀ W, Calls Tryz.prog 101 #[.string X, .string ⟨#[104, 101, 97, 100, 32]⟩] W fun e w' => e = .returned (.string ⟨(trP hWo t).toArray⟩) ∧ w' = W) := hid (fun W => by
      have := trimPre t hWo W
      rw [sV_out, sV_out, sV_out, HX.out] at this
      exact this)
    have k0 := HKC.out w2 HB2.out
    by_cases hpre : t.take 5 = hWo
    · have hdt : decide (t.take 5 = hWo) = true := decide_eq_true hpre
      have HRO : Hid (rdO (t :: us) = (t.drop 5, (rdR us).1)) := hid (by rw [rdO, if_pos hpre])
      have htr : trP hWo t = t.drop 5 := by unfold trP; exact if_pos hpre
      rw [hdt] at C89
      rw [htr] at C101
      obtain ⟨Hd, HHD⟩ : ∃ X : ByteArray, Hid (⟨(t.drop 5).toArray⟩ = X) := ⟨_, hid rfl⟩
      rw [HHD.out] at C101
      obtain ⟨w3, HW3⟩ : ∃ u, Hid (w2.setCell ⟨G + 1, 0, none⟩ (.string Hd) = u) := ⟨_, rfl⟩
      have hst := HX1.out.st0 (.string Hd) rfl
      have hcs := HX1.out.c0
      have hfs := HX1.out.f0
      have hy1 : Bx2 w3 (G + 1) 24 (.string Hd) (.slice none 0 0) := by rw [← HW3.out]; exact HX1.out.set0 _
      have hg3 : w2.grownBy w3 (some (G + 1)) := by rw [← HW3.out]; exact grown_set1 _ _ _ _
      have hy0 : Bx2 w3 G 24 (.string ⟨#[]⟩) (.slice none 0 0) := HX0.out.kept hg3 (fun e => by cases e)
      have HB3 : Hid (Below G w w3) := hid (HB2.out.grown hg3 (by rw [HS2.out]; omega) (fun k e => by cases e; omega))
      have HSZ3 : Hid (w3.heap.size = G + 1 + 1) := hid (by
        rw [← HW3.out, ← HS2.out]
        show (w2.heap.modify _ _).size = _
        simp)
      rw [HW3.out] at hst
      have HY0 := hid hy0
      have HY1 := hid hy1
      obtain ⟨aa, HAA⟩ : ∃ x, Hid (adX 1 (some ⟨b, off, none⟩) cap 1 = x) := ⟨_, rfl⟩
      obtain ⟨ca, HCA⟩ : ∃ x : Nat, Hid (cap - 1 = x) := ⟨_, rfl⟩
      obtain ⟨na, HNA⟩ : ∃ x : Nat, Hid (m - 1 = x) := ⟨_, rfl⟩
      have hsl : ∀ W : World, (Instr.slice 63 (.slice (some ⟨b, off, none⟩) m cap) (some (.int .i64 1)) none none).run Tryz.prog W = .ok (.slice aa na ca) W := fun W => by
        rw [← HAA.out, ← HCA.out, ← HNA.out]
        exact sl63l _ m cap 1 (by omega) W
      have HUL : Hid (us.length = na) := hid (by have := HM.out; rw [List.length_cons] at this; have := HNA.out; omega)
      have CR := hid (C102.out w3 aa ca na us HB3.out HUL (by
        have := (HPS.out w3 HB3.out).from 1 (by simp)
        rw [HAA.out, HCA.out] at this
        exact this) (by have := HNN.out; rw [List.length_cons] at this; omega) (fun u hu => HL.out u (by simp [hu])))
      have al3 : w2.setCell ⟨G + 1, 0, none⟩ (.string Hd) = w3 := HW3.out
      clear hpre hdt htr hy0 hy1 hg3
      go_enter Tryz.func67, Tryz.ntmps67
      go_wp2_with fail
      refine (C89.out w2).mono ?_
      rintro e wz ⟨rfl, hwz⟩
      rw [hwz]
      clear hwz wz
      go_wp2_with fail
      refine (C101.out w2).mono ?_
      rintro e wz ⟨rfl, hwz⟩
      rw [hwz]
      clear hwz wz
      go_wp2_with fail
      refine CR.out.mono ?_
      rintro e w4 ⟨v, uu, hbx, rfl⟩
      have hsW : w3.heap.size = G + 1 + 1 := HSZ3.out
      obtain ⟨av, cv, rfl, _⟩ := hbx.px (d := rf0) (encR_ln (fun y hy => (rdR_wf 10000 _ (by first | exact HL.out | (intro u hu; exact HL.out u (by simp [hu]))) y hy).1))
      obtain ⟨kl, HKL⟩ : ∃ n, Hid ((rdR us).1.length = n) := ⟨_, rfl⟩
      rw [HKL.out] at hbx
      rw [HKL.out]
      have h40 := Bx2.below (HY0.out) (by have := hbx.below; exact this)
      have h41 := Bx2.below (HY1.out) (by have := hbx.below; exact this)
      have hst1 := h41.st1 (.slice av kl cv) rfl
      have hcs1 := h41.c1
      have hfs1 := h41.f1
      obtain ⟨w5, HW5⟩ : ∃ u, Hid (w4.setCell ⟨G + 1, 1, none⟩ (.slice av kl cv) = u) := ⟨_, rfl⟩
      have h51 : Bx2 w5 (G + 1) 24 (.string Hd) (.slice av kl cv) := by rw [← HW5.out]; exact h41.set1 _
      have hg5 : w4.grownBy w5 (some (G + 1)) := by rw [← HW5.out]; exact grown_set1 _ _ _ _
      have h50 : Bx2 w5 G 24 (.string ⟨#[]⟩) (.slice none 0 0) := h40.kept hg5 (fun e => by cases e)
      rw [HW5.out] at hst1
      obtain ⟨w6, hw6, ht6, hg6, hr6⟩ := h50.put (.string Hd) (.slice av kl cv)
      have R5 : Hid (w5.rangeAt (G + 1) 0 [.string Hd, .slice av kl cv]) := hid (range_row h51)
      have T1 := hid ht6
      have T2 : Hid ((Tryz.prog.info? 24).map (·.size) = some (#[.string Hd, .slice av kl cv] : Array Value).size) := hid size24
      have T3 : Hid ((#[.string Hd, .slice av kl cv] : Array Value).all (·.oneCell') = true) := hid (by simp [Value.oneCell'])
      have HW6 := hid hw6
      have R6 := hid hr6
      have HBF : Hid (BRf w w6 G (.slice av kl cv) (rdR us).1) := hid (by
        have h1 := own_keep (own_keep hbx.own hg5 (fun j e => by cases e; rw [hsW]; omega)) hg6 (fun j e => by cases e; rw [hsW]; omega)
        have e1 := hbx.below.size
        have e2 := hg5.size
        have e3 := hg6.size
        have hbw : Below G w w4 := (HB3.out).trans (hbx.below.mono (by rw [hsW]; omega))
        refine ⟨(hbw.grown hg5 (by omega) (fun k e => by cases e; omega)).grown hg6 (by omega) (fun k e => by cases e; omega), base_mono h1 (by rw [hsW]; omega), by omega⟩)
      have al5 : w4.setCell ⟨G + 1, 1, none⟩ (.slice av kl cv) = w5 := HW5.out
      clear hbx h40 h41 h50 h51 hg5 hg6 hr6 hw6 ht6
      go_wp2_with (first
        | (refine wpList_load_mid rfl 24 _ rfl (G + 1) 0 rfl [.string Hd, .slice av kl cv] d R5.out HD1.out HD2.out size24 ?_)
        | (refine wpList_store_mid rfl 24 _ _ rfl G 0 #[.string Hd, .slice av kl cv] rfl rfl T1.out T2.out T3.out ?_; rw [HW6.out])
        | fail)
      refine bodyPost_ret (results_cell Tryz.results67 _ _ G [.string Hd, .slice av kl cv] d rfl R6.out HD1.out HD2.out size24) rfl ?_
      unfold PostRo
      rw [HRO.out]
      simp only
      rw [HKL.out]
      exact ⟨av, cv, by rw [HHD.out], HBF.out⟩
    · have hdt : decide (t.take 5 = hWo) = false := decide_eq_false hpre
      have HRO : Hid (rdO (t :: us) = ([], (rdR (t :: us)).1)) := hid (by rw [rdO, if_neg hpre])
      rw [hdt] at C89
      have CR := hid (C102.out w2 (some ⟨b, off, none⟩) cap m (t :: us) HB2.out HM (HPS.out w2 HB2.out) HNN.out HL.out)
      clear hpre hdt
      go_enter Tryz.func67, Tryz.ntmps67
      go_wp2_with fail
      refine (C89.out w2).mono ?_
      rintro e wz ⟨rfl, hwz⟩
      rw [hwz]
      clear hwz wz
      go_wp2_with fail
      refine CR.out.mono ?_
      rintro e w4 ⟨v, uu, hbx, rfl⟩
      have hsW : w2.heap.size = G + 1 + 1 := HS2.out
      obtain ⟨av, cv, rfl, _⟩ := hbx.px (d := rf0) (encR_ln (fun y hy => (rdR_wf 10000 _ (by first | exact HL.out | (intro u hu; exact HL.out u (by simp [hu]))) y hy).1))
      obtain ⟨kl, HKL⟩ : ∃ n, Hid ((rdR (t :: us)).1.length = n) := ⟨_, rfl⟩
      rw [HKL.out] at hbx
      rw [HKL.out]
      have h40 := Bx2.below (HX0.out) (by have := hbx.below; exact this)
      have h41 := Bx2.below (HX1.out) (by have := hbx.below; exact this)
      have hst1 := h41.st1 (.slice av kl cv) rfl
      have hcs1 := h41.c1
      have hfs1 := h41.f1
      obtain ⟨w5, HW5⟩ : ∃ u, Hid (w4.setCell ⟨G + 1, 1, none⟩ (.slice av kl cv) = u) := ⟨_, rfl⟩
      have h51 : Bx2 w5 (G + 1) 24 (.string ⟨#[]⟩) (.slice av kl cv) := by rw [← HW5.out]; exact h41.set1 _
      have hg5 : w4.grownBy w5 (some (G + 1)) := by rw [← HW5.out]; exact grown_set1 _ _ _ _
      have h50 : Bx2 w5 G 24 (.string ⟨#[]⟩) (.slice none 0 0) := h40.kept hg5 (fun e => by cases e)
      rw [HW5.out] at hst1
      obtain ⟨w6, hw6, ht6, hg6, hr6⟩ := h50.put (.string ⟨#[]⟩) (.slice av kl cv)
      have R5 : Hid (w5.rangeAt (G + 1) 0 [.string ⟨#[]⟩, .slice av kl cv]) := hid (range_row h51)
      have T1 := hid ht6
      have T2 : Hid ((Tryz.prog.info? 24).map (·.size) = some (#[.string ⟨#[]⟩, .slice av kl cv] : Array Value).size) := hid size24
      have T3 : Hid ((#[.string ⟨#[]⟩, .slice av kl cv] : Array Value).all (·.oneCell') = true) := hid (by simp [Value.oneCell'])
      have HW6 := hid hw6
      have R6 := hid hr6
      have HBF : Hid (BRf w w6 G (.slice av kl cv) (rdR (t :: us)).1) := hid (by
        have h1 := own_keep (own_keep hbx.own hg5 (fun j e => by cases e; rw [hsW]; omega)) hg6 (fun j e => by cases e; rw [hsW]; omega)
        have e1 := hbx.below.size
        have e2 := hg5.size
        have e3 := hg6.size
        have hbw : Below G w w4 := (HB2.out).trans (hbx.below.mono (by rw [hsW]; omega))
        refine ⟨(hbw.grown hg5 (by omega) (fun k e => by cases e; omega)).grown hg6 (by omega) (fun k e => by cases e; omega), base_mono h1 (by rw [hsW]; omega), by omega⟩)
      have al5 : w4.setCell ⟨G + 1, 1, none⟩ (.slice av kl cv) = w5 := HW5.out
      clear hbx h40 h41 h50 h51 hg5 hg6 hr6 hw6 ht6
      go_wp2_with (first
        | (refine wpList_load_mid rfl 24 _ rfl (G + 1) 0 rfl [.string ⟨#[]⟩, .slice av kl cv] d R5.out HD1.out HD2.out size24 ?_)
        | (refine wpList_store_mid rfl 24 _ _ rfl G 0 #[.string ⟨#[]⟩, .slice av kl cv] rfl rfl T1.out T2.out T3.out ?_; rw [HW6.out])
        | fail)
      refine bodyPost_ret (results_cell Tryz.results67 _ _ G [.string ⟨#[]⟩, .slice av kl cv] d rfl R6.out HD1.out HD2.out size24) rfl ?_
      unfold PostRo
      rw [HRO.out]
      simp only
      rw [HKL.out]
      exact ⟨av, cv, rfl, HBF.out⟩
end Go.Proofs.YtijeogdnjeamaaaGreatDoor
