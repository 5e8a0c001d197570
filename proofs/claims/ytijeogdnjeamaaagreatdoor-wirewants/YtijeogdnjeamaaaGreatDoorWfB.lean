/- 'readList' of ids, 'readIDs'. -/
import Derived.Test.YtijeogdnjeamaaaGreatDoorWfA
namespace Go.Proofs.YtijeogdnjeamaaaGreatDoor
open Go.RowKit
set_option linter.unusedVariables false
set_option linter.unusedSimpArgs false
theorem elem63 : Tryz.prog.underlying 63 = some (.slice (Tryz.prog.elem 63)) := by kernel_rfl
theorem size63e (w : World) : (Go.sizeOf (Tryz.prog.elem 63)).run Tryz.prog w = .ok 1 w := by kernel_rfl
theorem sl63l (a : Option Addr) (n cap i : Nat) (hi : i ≤ n) (w : World) : (Instr.slice 63 (.slice a n cap) (some (.int .i64 i)) none none).run Tryz.prog w = .ok (.slice (adX 1 a cap i) (n - i : Nat) (cap - i : Nat)) w := by
  rw [run_slice_l w 63 a n cap elem63 .i64 i (by omega) (by omega), size63e, Result.andThen_ok, sliced]
  rfl
def PostRL (p : Str) (ts : List Str) (w : World) (G : Nat) (e : Ending) (w' : World) : Prop :=
  ∃ v a2 c2, Bi 68 w w' G v (rdI p ts).1 ∧ e = .returned (.tuple #[v, .slice a2 (rdI p ts).2.length c2]) ∧ PS w' a2 c2 (rdI p ts).2
theorem Tryz.results124 : Tryz.f124.results = #[.tmp 4, .tmp 5] := by kernel_rfl
theorem drop_at (ts : List Str) (i : Nat) (h : i < ts.length) : ts.drop i = ts.getD i [] :: ts.drop (i + 1) := by
  rw [List.drop_eq_getElem_cons h, List.getD_eq_getElem?_getD, List.getElem?_eq_getElem h]
  rfl
set_option maxRecDepth 20000 in
set_option maxHeartbeats 4000000 in
theorem readList_any {w : World} {q : Nat} (p : Str) (hp : p.length ≤ 10) (a : Option Addr) (cap : Nat) (ts : List Str) (hP : PS w a cap ts) (hn : ts.length ≤ 20000) (hl : ∀ t ∈ ts, t.length ≤ 10000) (hq : w.cell? ⟨q, 0, none⟩ = some (.string ⟨p.toArray⟩)) (hql : q < w.heap.size) :
    Calls Tryz.prog 124 #[.slice a ts.length cap, .func (.func 125) #[] #[.pointer (some ⟨q, 0, none⟩)]] w (PostRL p ts w w.heap.size) := by
  obtain ⟨G, HG⟩ : ∃ n, Hid (w.heap.size = n) := ⟨_, rfl⟩
  obtain ⟨m, HM⟩ : ∃ n, Hid (ts.length = n) := ⟨_, rfl⟩
  have hm : m ≤ 20000 := by rw [← HM.out]; exact hn
  obtain ⟨zr, HZR⟩ : ∃ z : Array Value, Hid (z = (row .u8 z20).toArray) := ⟨_, hid rfl⟩
  have hz68 : ∀ w : World, (zeroValue 68).run Tryz.prog w = .ok (.agg zr) w := fun w => by rw [HZR.out]; exact zero68 w
  have HPS : Hid (∀ W, Below G w W → PS W a cap ts) := hid (fun W hW => hP.below (by rw [HG.out]; exact hW))
  have HPL : Hid (0 < m → ∃ b off, a = some ⟨b, off, none⟩) := hid (fun h => by
    obtain ⟨b, off, e1, _⟩ := hP.at_ (by rw [HM.out]; exact h)
    exact ⟨b, off, e1⟩)
  have HTL := hid hl
  have CF : Hid (∀ (W : World) (t : Str) (X : ByteArray), Hid (⟨t.toArray⟩ = X) → t.length ≤ 10000 → Below G w W → Calls Tryz.prog 125 #[.string X, .pointer (some ⟨q, 0, none⟩)] W (PostPr (trP p t) W)) := hid (fun W t X hX ht hW => by
    rw [← hX.out]
    exact readF_any p hp t ht ((hW.cell (p := ⟨q, 0, none⟩) (by rw [← HG.out]; exact hql)).trans hq) (by have := hW.size; omega))
  have HE0 : Hid (Bi 68 w w G (.slice none 0 0) []) := hid (bx_nil 68 w G (by rw [HG.out]; exact Nat.le_refl _))
  have HGS : Hid (∀ W, Below G w W → G ≤ W.heap.size) := hid (fun W hW => by have := hW.size; have := HG.out; omega)
  rw [HM.out, HG.out]
  clear hP hn hl hq hql
  go_enter Tryz.func124, Tryz.ntmps124
  go_wp2_with fail
  go_loopg [4, 12] m (fun gg lv iv wr => ∃ (i : Nat) (L : List (List Int)), i ≤ m ∧ gg = m - i ∧ iv = .int .i64 i ∧ Hid (Bi 68 w wr G lv L) ∧ Hid (L.length = i) ∧ Hid (rdI p ts = (L ++ (rdI p (ts.drop i)).1, (rdI p (ts.drop i)).2)))
  case atStart => exact ⟨0, [], Nat.zero_le _, rfl, rfl, HE0, hid rfl, hid (by simp)⟩
  case round =>
    obtain ⟨i, L, hi, hk, rfl, HBE, HLL, HRD⟩ := hrel
    by_cases hlt : i < m
    · have hlti : (i : Int) < (m : Int) := by omega
      obtain ⟨b, off, rfl⟩ := HPL.out (by omega)
      have hil : i < ts.length := by rw [HM.out]; exact hlt
      obtain ⟨t, HT⟩ : ∃ x, Hid (ts.getD i [] = x) := ⟨_, rfl⟩
      obtain ⟨X, HX⟩ : ∃ X : ByteArray, Hid (⟨t.toArray⟩ = X) := ⟨_, hid rfl⟩
      have kc : wr.cell? ⟨b, off + i, none⟩ = some (.string X) := by
        obtain ⟨b', off', e1, _, e3⟩ := (HPS.out wr HBE.out.below).at_ (by omega)
        cases e1
        have := e3 i hil 0 _ rfl
        rw [show off + i * 1 + 0 = off + i by omega, HT.out, sV_out, HX.out] at this
        exact this
      have HDR : Hid (ts.drop i = t :: ts.drop (i + 1)) := hid (by rw [drop_at ts i hil, HT.out])
      have CC := hid (CF.out wr t X HX (by rw [← HT.out]; exact HTL.out _ (getD_mem ts i [] hil)) HBE.out.below)
      have hBw := HBE.out.below
      clear hil
      go_wp2_with fail
      refine CC.out.mono ?_
      rintro e w2 ⟨hb2, ⟨x, hx, rfl⟩ | ⟨hx, rfl⟩⟩
      · have HXW : Hid (IdW x) := hid (prs_wf hx).1
        obtain ⟨Y, HY⟩ : ∃ R : List Value, Hid (row .u8 x = R) := ⟨_, rfl⟩
        have HYL : Hid (Y.length = 20) := hid (by rw [← HY.out, row_len]; exact HXW.out.1)
        have hiY : (Tryz.prog.info? 68).map (·.size) = some Y.length := by rw [HYL.out]; exact size68
        obtain ⟨P, HPP⟩ : ∃ P, Hid (w2.heap.size = P) := ⟨_, rfl⟩
        obtain ⟨w3, hw3, ht3, hb3, hr3⟩ := id_new w2 68 zr HZR.out Y HYL.out
        obtain ⟨wa, HWA⟩ : ∃ W, Hid (w2.alloc (.cells zr 68) = W) := ⟨_, rfl⟩
        rw [HWA.out, HPP.out] at hw3 ht3
        rw [HPP.out] at hb3 hr3
        have HW3 := hid hw3
        have T1 := hid ht3
        have R3 := hid hr3
        have T2 : Hid ((Tryz.prog.info? 68).map (·.size) = some Y.toArray.size) := hid (by rw [List.size_toArray]; exact hiY)
        have T3 : Hid (Y.toArray.all (·.oneCell') = true) := hid (by rw [← HY.out]; exact all_oneCell_toArray (row_oneC _))
        have HB3 : Hid (Bi 68 w w3 G u4 L) := hid ((HBE.out.carry hb2).carry (by rw [HPP.out]; exact hb3))
        obtain ⟨K7, HK7⟩ : ∃ K, Hid (w3.heap.size = K) := ⟨_, rfl⟩
        have HBLD : Hid ((Instr.buildSlice 41 1 #[(0, .agg Y.toArray)]).run Tryz.prog w3 = .ok (.slice (some ⟨K7, 0, none⟩) 1 1) (w3.alloc (.cells Y.toArray 68))) := hid (by rw [← HK7.out, ← HY.out]; exact run_b41 x HXW.out.1 w3)
        have HV7 : Hid (Bi 68 w (w3.alloc (.cells Y.toArray 68)) G u4 L) := hid (HB3.out.alloc _)
        have HP8 : Hid (Pa (w3.alloc (.cells Y.toArray 68)) (some ⟨K7, 0, none⟩) 1 [x]) := hid (by rw [← HK7.out, ← HY.out]; exact pa_one w3 x 68)
        have HSUM : Hid (L.length + [x].length ≤ 30000) := hid (by rw [HLL.out]; simp only [List.length_cons, List.length_nil]; omega)
        have HONE1 : Hid (∀ z ∈ [x], (row .u8 z).length = 20) := hid (fun z hz => by
          have : z = x := by simpa using hz
          rw [this, row_len]; exact HXW.out.1)
        have HRD2 : Hid (rdI p ts = ((L ++ [x]) ++ (rdI p (ts.drop (i + 1))).1, (rdI p (ts.drop (i + 1))).2)) := hid (by
          rw [HRD.out, HDR.out, rdI_some hx]
          simp)
        have al1 : w2.alloc (.cells zr 68) = wa := HWA.out
        have hsP : w2.heap.size = P := HPP.out
        unfold idV
        rw [HY.out]
        clear hw3 ht3 hb3 hr3 hb2 hx hBw
        go_wp2_with (first
          | (refine wpList_load_mid rfl 68 _ rfl P 0 rfl Y _ R3.out Tryz.underlying68 rfl hiY ?_)
          | (refine wpList_store_mid rfl 68 _ _ rfl P 0 Y.toArray rfl rfl T1.out T2.out T3.out ?_; rw [HW3.out])
          | refine wpList_bS rfl 41 1 _ rfl (.agg Y.toArray) _ rfl HBLD.out ?_
          | (refine wpList_bx_sl (enc := row .u8) (k := 20) (d := []) rfl _ _ 41 68 Tryz.underlying41 Tryz.info68 rfl (by decide) (by decide) row_oneC rfl G u4 L rfl HV7.out (some ⟨K7, 0, none⟩) 1 [x] rfl HP8.out HONE1.out HSUM.out ?_; intro v8 w8 hb8 hg8)
          | fail)
        have HB8 : Hid (Bi 68 w w8 G v8 (L ++ [x])) := hid hb8
        have HL8 : Hid ((L ++ [x]).length = i + 1) := hid (by rw [List.length_append, HLL.out]; rfl)
        clear hb8 hg8
        try go_wp2
        go_roundg (m - (i + 1))
        case measure => omega
        case rel => exact ⟨i + 1, L ++ [x], by omega, rfl, by go_num, HB8, HL8, HRD2⟩
      · obtain ⟨Y, HY⟩ : ∃ R : List Value, Hid (row .u8 z20 = R) := ⟨_, rfl⟩
        have HYL : Hid (Y.length = 20) := hid (by rw [← HY.out, row_len]; rfl)
        have hiY : (Tryz.prog.info? 68).map (·.size) = some Y.length := by rw [HYL.out]; exact size68
        obtain ⟨P, HPP⟩ : ∃ P, Hid (w2.heap.size = P) := ⟨_, rfl⟩
        obtain ⟨w3, hw3, ht3, hb3, hr3⟩ := id_new w2 68 zr HZR.out Y HYL.out
        obtain ⟨wa, HWA⟩ : ∃ W, Hid (w2.alloc (.cells zr 68) = W) := ⟨_, rfl⟩
        rw [HWA.out, HPP.out] at hw3 ht3
        rw [HPP.out] at hb3 hr3
        have HW3 := hid hw3
        have T1 := hid ht3
        have T2 : Hid ((Tryz.prog.info? 68).map (·.size) = some Y.toArray.size) := hid (by rw [List.size_toArray]; exact hiY)
        have T3 : Hid (Y.toArray.all (·.oneCell') = true) := hid (by rw [← HY.out]; exact all_oneCell_toArray (row_oneC _))
        have hbd : Below w3.heap.size w3 w3.drew := ⟨rfl, rfl, rfl, Nat.le_refl _, fun _ _ => rfl⟩
        have HB3 : Hid (Bi 68 w w3.drew G u4 L) := hid (((HBE.out.carry hb2).carry (by rw [HPP.out]; exact hb3)).carry hbd)
        have HRD2 : Hid (rdI p ts = (L, ts.drop i)) := hid (by
          rw [HRD.out, HDR.out, rdI_none hx]
          simp)
        obtain ⟨aa, HAA⟩ : ∃ x, Hid (adX 1 (some ⟨b, off, none⟩) cap i = x) := ⟨_, rfl⟩
        obtain ⟨ca, HCA⟩ : ∃ x : Nat, Hid (cap - i = x) := ⟨_, rfl⟩
        obtain ⟨na, HNA⟩ : ∃ x : Nat, Hid (m - i = x) := ⟨_, rfl⟩
        have hsl : ∀ W : World, (Instr.slice 63 (.slice (some ⟨b, off, none⟩) m cap) (some (.int .i64 i)) none none).run Tryz.prog W = .ok (.slice aa na ca) W := fun W => by
          rw [← HAA.out, ← HCA.out, ← HNA.out]
          exact sl63l _ m cap i (by omega) W
        have HPF : Hid (PS w3.drew aa ca (ts.drop i)) := hid (by
          rw [← HAA.out, ← HCA.out]
          exact (HPS.out _ HB3.out.below).from i (by rw [HM.out]; omega))
        have HNL : Hid ((ts.drop i).length = na) := hid (by rw [List.length_drop, HM.out]; exact HNA.out)
        have al1 : w2.alloc (.cells zr 68) = wa := HWA.out
        have hsP : w2.heap.size = P := HPP.out
        unfold idV
        rw [HY.out]
        clear hw3 ht3 hb3 hr3 hb2 hx hBw hbd
        go_wp2_with (first
          | (refine wpList_store_mid rfl 68 _ _ rfl P 0 Y.toArray rfl rfl T1.out T2.out T3.out ?_; rw [HW3.out])
          | fail)
        refine wp_region_held_drew (S := fun _ => True) (by kernel_rfl) trivial (fun hHeld => ?_)
        generalize w3.drew = w4 at hHeld HB3 HPF ⊢
        refine takeL (i := 0) (v := ?_) rfl (by kernel_rfl) (by kernel_rfl) (by kernel_rfl) (fun _ _ _ h => h) (Or.inl ⟨by rfl, ?_⟩) hHeld ?_
        rotate_left
        · rintro w' _; go_simp; rfl
        try simp only [Act.put, List.setIfInBounds_toArray, List.set_cons_zero, List.set_cons_succ]
        refine takeL (i := 1) (v := ?_) rfl (by kernel_rfl) (by kernel_rfl) (by kernel_rfl) (fun _ _ _ h => h) (Or.inl ⟨by rfl, ?_⟩) hHeld ?_
        rotate_left
        · rintro w' _; go_simp; rfl
        try simp only [Act.put, List.setIfInBounds_toArray, List.set_cons_zero, List.set_cons_succ]
        refine takeL (i := 2) (v := ?_) rfl (by kernel_rfl) (by kernel_rfl) (by kernel_rfl) (fun _ _ _ h => h) (Or.inl ⟨by rfl, ?_⟩) hHeld ?_
        rotate_left
        · rintro w' _; go_simp; rfl
        try simp only [Act.put, List.setIfInBounds_toArray, List.set_cons_zero, List.set_cons_succ]
        refine takeL (i := 3) (v := ?_) rfl (by kernel_rfl) (by kernel_rfl) (by kernel_rfl) (fun _ _ _ h => h) (Or.inl ⟨by rfl, ?_⟩) hHeld ?_
        rotate_left
        · rintro w' _; go_simp; rfl
        try simp only [Act.put, List.setIfInBounds_toArray, List.set_cons_zero, List.set_cons_succ]
        refine takeL (i := 4) (v := ?_) rfl (by kernel_rfl) (by kernel_rfl) (by kernel_rfl) (fun _ _ _ h => h) (Or.inl ⟨by rfl, ?_⟩) hHeld ?_
        rotate_left
        · rintro w' _; go_simp; rfl
        try simp only [Act.put, List.setIfInBounds_toArray, List.set_cons_zero, List.set_cons_succ]
        refine takeL (i := 5) (v := ?_) rfl (by kernel_rfl) (by kernel_rfl) (by kernel_rfl) (fun _ _ _ h => h) (Or.inl ⟨by rfl, ?_⟩) hHeld ?_
        rotate_left
        · rintro w' _; go_simp; rfl
        try simp only [Act.put, List.setIfInBounds_toArray, List.set_cons_zero, List.set_cons_succ]
        refine wpAnyH_done (by kernel_rfl) ?_ _
        clear hHeld
        go_wp2
        refine bodyPost_ret (results_tmp2 Tryz.results124 _ _ _) rfl ?_
        unfold PostRL
        rw [HRD2.out]
        exact ⟨_, aa, ca, HB3.out, by rw [HNL.out]; rfl, HPF.out⟩
    · have hlti : ¬ (i : Int) < (m : Int) := by omega
      have HRD2 : Hid (rdI p ts = (L, [])) := hid (by
        rw [HRD.out, List.drop_of_length_le (by rw [HM.out]; omega)]
        simp [rdI])
      have HPN : Hid (PS wr none 0 []) := hid ⟨Nat.le_refl _, fun h => by simp at h, fun _ => rfl⟩
      go_wp2
      refine bodyPost_ret (results_tmp2 Tryz.results124 _ _ _) rfl ?_
      unfold PostRL
      rw [HRD2.out]
      exact ⟨_, none, 0, HBE.out, rfl, HPN.out⟩
theorem Tryz.results105 : Tryz.f105.results = #[.tmp 4, .tmp 5] := by kernel_rfl
set_option maxRecDepth 20000 in
set_option maxHeartbeats 1000000 in
theorem readIDs_any {w : World} (p : Str) (hp : p.length ≤ 10) (a : Option Addr) (cap : Nat) (ts : List Str) (hP : PS w a cap ts) (hn : ts.length ≤ 20000) (hl : ∀ t ∈ ts, t.length ≤ 10000) :
    Calls Tryz.prog 105 #[.slice a ts.length cap, .string ⟨p.toArray⟩] w (PostRL p ts w w.heap.size) := by
  obtain ⟨G, HG⟩ : ∃ n, Hid (w.heap.size = n) := ⟨_, rfl⟩
  obtain ⟨m, HM⟩ : ∃ n, Hid (ts.length = n) := ⟨_, rfl⟩
  obtain ⟨Pd, HPD⟩ : ∃ X : ByteArray, Hid (⟨p.toArray⟩ = X) := ⟨_, hid rfl⟩
  obtain ⟨w1, HW1⟩ : ∃ u, Hid (w.alloc (.cells #[.string Pd] 9) = u) := ⟨_, rfl⟩
  have hb1 : Below G w w1 := by rw [← HW1.out, ← HG.out]; exact (Below.refl _ w).alloc (Nat.le_refl _) _
  have hq1 : Boxed w1 G 9 (.string Pd) := by rw [← HW1.out, ← HG.out]; exact Boxed.new _ _ _
  have CC : Hid (Calls Tryz.prog 124 #[.slice a m cap, .func (.func 125) #[] #[.pointer (some ⟨G, 0, none⟩)]] w1 (PostRL p ts w1 w1.heap.size)) := hid (by
    rw [← HM.out]
    exact readList_any p hp a cap ts (hP.below (by rw [HG.out]; exact hb1)) hn hl (by rw [HPD.out]; exact hq1.cell) hq1.lt)
  have HB1 := hid hb1
  have HS1 : Hid (G ≤ w1.heap.size) := hid (Nat.le_of_lt hq1.lt)
  have al1 : w.alloc (.cells #[.string Pd] 9) = w1 := HW1.out
  have hs0 : w.heap.size = G := HG.out
  rw [HM.out, HG.out, HPD.out]
  clear hP hn hl hb1 hq1
  go_enter Tryz.func105, Tryz.ntmps105
  go_wp2_with fail
  refine CC.out.mono ?_
  rintro e w2 ⟨v, a2, c2, hbi, rfl, hps⟩
  have HBI : Hid (Bi 68 w w2 G v (rdI p ts).1) := hid ⟨HB1.out.trans (hbi.below.mono HS1.out), base_mono hbi.own HS1.out, Nat.le_trans HS1.out hbi.le⟩
  have HPS := hid hps
  clear hbi hps
  go_wp2
  refine bodyPost_ret (results_tmp2 Tryz.results105 _ _ _) rfl ?_
  exact ⟨_, a2, c2, HBI.out, rfl, HPS.out⟩
end Go.Proofs.YtijeogdnjeamaaaGreatDoor
