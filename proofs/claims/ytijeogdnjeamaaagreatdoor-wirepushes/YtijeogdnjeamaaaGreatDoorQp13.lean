import Derived.Test.YtijeogdnjeamaaaGreatDoorQp12
import Derived.Test.YtijeogdnjeamaaaGreatDoorQp10
namespace Go.Proofs.YtijeogdnjeamaaaGreatDoor
open Go.RowKit
set_option linter.unusedVariables false
set_option linter.unusedSimpArgs false
def PostRLc (ts : List Str) (w : World) (G : Nat) (e : Ending) (w' : World) : Prop :=
  ∃ v u, BCh 96 w w' G v (rdC ts).1 ∧ e = .returned (.tuple #[v, u])
theorem Tryz.results108 : Tryz.f108.results = #[.tmp 4, .tmp 5] := by kernel_rfl
theorem info96 : (Tryz.prog.info? 96).map (fun i => (i.zero, i.size, i.bytes)) = some (some (.agg (encCh zch).toArray), 41, 56) := by kernel_rfl
theorem run_b47 (x : Chg) (h : IdW x.2.1 ∧ IdW x.2.2) (w : World) : (Instr.buildSlice 47 1 #[(0, chV x)]).run Tryz.prog w = .ok (.slice (some ⟨w.heap.size, 0, none⟩) 1 1) (w.alloc (.cells (encCh x).toArray 96)) := by
  obtain ⟨i, hq, hz, hs, _⟩ := info_parts info96
  refine run_buildSlice w 47 96 1 _ (encCh x).toArray i _ Tryz.underlying47 hq hz (by rw [hs]; decide) (by rw [hs]; decide) ?_
  rw [hs]
  obtain ⟨A, a, b⟩ := x
  obtain ⟨a0, a1, a2, a3, a4, a5, a6, a7, a8, a9, a10, a11, a12, a13, a14, a15, a16, a17, a18, a19, rfl⟩ := list20 a h.1.1
  obtain ⟨b0, b1, b2, b3, b4, b5, b6, b7, b8, b9, b10, b11, b12, b13, b14, b15, b16, b17, b18, b19, rfl⟩ := list20 b h.2.1
  kernel_rfl
theorem pch_one (w : World) (x : Chg) (e : TypeId) : PCh (w.alloc (.cells (encCh x).toArray e)) (some ⟨w.heap.size, 0, none⟩) 1 [x] :=
  ⟨Nat.le_refl _, fun _ => ⟨w.heap.size, 0, rfl, by simp, fun i hi j v hv => by
    obtain rfl : i = 0 := by simpa using hi
    have := range_row (heap_alloc_new w (.cells (encCh x).toArray e)) j v hv
    simpa using this⟩, fun h => by cases h⟩
theorem Tryz.results82 : Tryz.f82.results = #[.tmp 2, .tmp 3] := by kernel_rfl
set_option maxRecDepth 20000 in
theorem writeP1_any {w : World} (a : Option Addr) (cap : Nat) (l : List Chg) (hP : PCh w a cap l) (hl : FitC l) (hm : Nm.Mx w) (hd : Db w) : Calls Tryz.prog 82 #[.slice a l.length cap] w (PostWp l [] w) := by
  obtain ⟨n, HN⟩ : ∃ n, Hid (l.length = n) := ⟨_, rfl⟩
  have C18 : Hid (Calls Tryz.prog 18 #[.slice a n cap, .slice none 0 0] w (PostWp l [] w)) := hid (by
    rw [← HN.out]
    exact writePush_any a cap l hP hl hm hd none 0 [] (pb_none w) (by simp))
  rw [HN.out]
  clear hP hl hm hd
  go_enter Tryz.func82, Tryz.ntmps82
  go_wp2_with fail
  refine C18.out.mono ?_
  rintro e w1 ⟨hb, ⟨h1, v, rfl, h2⟩ | ⟨h1, rfl⟩⟩
  · have HB := hid hb
    have H1 := hid h1
    have H2 := hid h2
    clear hb h1 h2
    go_wp2
    refine bodyPost_ret (results_tmp2 Tryz.results82 _ _ _) rfl ?_
    exact ⟨HB.out, .inl ⟨H1.out, _, rfl, H2.out⟩⟩
  · have HB := hid hb
    have H1 := hid h1
    clear hb h1
    go_wp2
    refine bodyPost_ret (results_tmp2 Tryz.results82 _ _ _) rfl ?_
    exact ⟨HB.out, .inr ⟨H1.out, rfl⟩⟩
set_option maxRecDepth 20000 in
set_option maxHeartbeats 4000000 in
theorem readListC_any {w : World} (a : Option Addr) (cap : Nat) (ts : List Str) (hP : PS w a cap ts) (hn : ts.length ≤ 20000) (hl : ∀ t ∈ ts, t.length ≤ 10000) (hm : Nm.Mx w) :
    Calls Tryz.prog 108 #[.slice a ts.length cap, .func (.func 109) #[] #[]] w (PostRLc ts w w.heap.size) := by
  obtain ⟨G, HG⟩ : ∃ n, Hid (w.heap.size = n) := ⟨_, rfl⟩
  obtain ⟨m, HM⟩ : ∃ n, Hid (ts.length = n) := ⟨_, rfl⟩
  have hm2 : m ≤ 20000 := by rw [← HM.out]; exact hn
  obtain ⟨zr, HZR⟩ : ∃ z : Array Value, Hid (z = (encCh zch).toArray) := ⟨_, hid rfl⟩
  have hzs : zr.size = 41 := by rw [HZR.out, List.size_toArray]; exact encCh_len zch_wf
  have hz96 : ∀ w : World, (zeroValue 96).run Tryz.prog w = .ok (.agg zr) w := fun w => by rw [HZR.out]; exact zero96 w
  have HPS : Hid (∀ W, Below G w W → PS W a cap ts) := hid (fun W hW => hP.below (by rw [HG.out]; exact hW))
  have HPL : Hid (0 < m → ∃ b off, a = some ⟨b, off, none⟩) := hid (fun h => by
    obtain ⟨b, off, e1, _⟩ := hP.at_ (by rw [HM.out]; exact h)
    exact ⟨b, off, e1⟩)
  have HTL := hid hl
  have CF : Hid (∀ (W : World) (t : Str) (X : ByteArray), Hid (⟨t.toArray⟩ = X) → t.length ≤ 10000 → Below G w W → Calls Tryz.prog 109 #[.string X] W (PostRc t W W.heap.size)) := hid (fun W t X hX ht hW => by
    rw [← hX.out]
    exact readChange_any t ht (Mx_kept hm (grown_of_below (by rw [HG.out]; exact hW) none) (by simp)))
  have HE0 : Hid (BCh 96 w w G (.slice none 0 0) []) := hid (bx_nil 96 w G (by rw [HG.out]; exact Nat.le_refl _))
  have HGS : Hid (∀ W, Below G w W → G ≤ W.heap.size) := hid (fun W hW => by have := hW.size; have := HG.out; omega)
  rw [HM.out, HG.out]
  clear hP hn hl hm
  go_enter Tryz.func108, Tryz.ntmps108
  go_wp2_with fail
  go_loopg [4, 12] m (fun gg lv iv wr => ∃ (i : Nat) (L : List Chg), i ≤ m ∧ gg = m - i ∧ iv = .int .i64 i ∧ Hid (BCh 96 w wr G lv L) ∧ Hid (L.length = i) ∧ Hid ((rdC ts).1 = L ++ (rdC (ts.drop i)).1))
  case atStart => exact ⟨0, [], Nat.zero_le _, rfl, rfl, HE0, hid rfl, hid (by simp)⟩
  case round =>
    obtain ⟨i, L, hi, hk, rfl, HBE, HLL, HRD⟩ := hrel
    by_cases hlt : i < m
    · have hlti : (i : Int) < (m : Int) := by omega
      obtain ⟨b, off, rfl⟩ := HPL.out (by omega)
      have hil : i < ts.length := by rw [HM.out]; exact hlt
      obtain ⟨t, HT⟩ : ∃ x, Hid (ts.getD i [] = x) := ⟨_, rfl⟩
      obtain ⟨X, HX⟩ : ∃ X : ByteArray, Hid (⟨t.toArray⟩ = X) := ⟨_, hid rfl⟩
      have kc : wr.cell? ⟨b, off + i, none⟩ = some (.string X) := by
        obtain ⟨b', off', e1, _, e3⟩ := (HPS.out wr HBE.out.below).at_ (by omega)
        cases e1
        have := e3 i hil 0 _ rfl
        rw [show off + i * 1 + 0 = off + i by omega, HT.out, sV_out, HX.out] at this
        exact this
      have HDR : Hid (ts.drop i = t :: ts.drop (i + 1)) := hid (by rw [drop_at ts i hil, HT.out])
      have CC := hid (CF.out wr t X HX (by rw [← HT.out]; exact HTL.out _ (getD_mem ts i [] hil)) HBE.out.below)
      clear hil
      go_wp2_with fail
      refine CC.out.mono ?_
      rintro e w2 ⟨hb2, ⟨x, hx, rfl⟩ | ⟨hx, y, te, pe, hyw, rfl⟩⟩
      · obtain ⟨Y, HY⟩ : ∃ R : List Value, Hid (encCh x = R) := ⟨_, rfl⟩
        have hxw := rc1_wf hx
        have HYL : Hid (Y.length = 41) := hid (by rw [← HY.out]; exact encCh_len hxw)
        have hiY : (Tryz.prog.info? 96).map (·.size) = some Y.length := by rw [HYL.out]; exact size96
        obtain ⟨P, HPP⟩ : ∃ P, Hid (w2.heap.size = P) := ⟨_, rfl⟩
        obtain ⟨w3, hw3, ht3, hb3, hr3⟩ := st_new w2 96 zr Y (by rw [HYL.out, hzs])
        obtain ⟨wa, HWA⟩ : ∃ W, Hid (w2.alloc (.cells zr 96) = W) := ⟨_, rfl⟩
        rw [HWA.out, HPP.out] at hw3 ht3
        rw [HPP.out] at hb3 hr3
        have HW3 := hid hw3
        have T1 : Hid (wa.there P 0 Y.toArray.size) := hid ht3
        have R3 := hid hr3
        have T2 : Hid ((Tryz.prog.info? 96).map (·.size) = some Y.toArray.size) := hid (by rw [List.size_toArray]; exact hiY)
        have T3 : Hid (Y.toArray.all (·.oneCell') = true) := hid (by rw [← HY.out]; exact all_oneCell_toArray (encCh_one _))
        have HB3 : Hid (BCh 96 w w3 G u4 L) := hid (Bx.carry (Bx.carry HBE.out hb2) (by rw [HPP.out]; exact hb3))
        obtain ⟨K7, HK7⟩ : ∃ K, Hid (w3.heap.size = K) := ⟨_, rfl⟩
        obtain ⟨wq, HWQ⟩ : ∃ W, Hid (w3.alloc (.cells Y.toArray 96) = W) := ⟨_, rfl⟩
        have HBLD : Hid ((Instr.buildSlice 47 1 #[(0, .agg Y.toArray)]).run Tryz.prog w3 = .ok (.slice (some ⟨K7, 0, none⟩) 1 1) wq) := hid (by rw [← HK7.out, ← HWQ.out]; rw [← HY.out]; exact run_b47 x hxw w3)
        have HV7 : Hid (BCh 96 w wq G u4 L) := hid (by rw [← HWQ.out]; exact Bx.alloc HB3.out _)
        have HP8 : Hid (PCh wq (some ⟨K7, 0, none⟩) 1 [x]) := hid (by
          have := pch_one w3 x 96
          rw [HY.out, HK7.out] at this
          rw [← HWQ.out]
          exact this)
        have HONE : Hid (∀ y ∈ [x], (encCh y).length = 41) := hid (fun y hy => by rw [List.mem_singleton.1 hy]; exact encCh_len hxw)
        have HSUM : Hid (L.length + [x].length ≤ 30000) := hid (by rw [HLL.out]; simp only [List.length_cons, List.length_nil]; omega)
        have HRD2 : Hid ((rdC ts).1 = (L ++ [x]) ++ (rdC (ts.drop (i + 1))).1) := hid (by
          rw [HRD.out, HDR.out, rdC_some hx]
          simp)
        have al1 : w2.alloc (.cells zr 96) = wa := HWA.out
        have hsP : w2.heap.size = P := HPP.out
        unfold chV
        rw [HY.out]
        clear hw3 ht3 hb3 hr3 hb2 hx hxw
        go_wp2_with (first
          | (refine wpList_load_mid rfl 96 _ rfl P 0 rfl Y _ R3.out Tryz.underlying96 rfl hiY ?_)
          | (refine wpList_store_mid rfl 96 _ _ rfl P 0 Y.toArray rfl rfl T1.out T2.out T3.out ?_; rw [HW3.out])
          | refine wpList_bS rfl 47 1 _ rfl (.agg Y.toArray) _ rfl HBLD.out ?_
          | (refine wpList_bx_sl (enc := encCh) (k := 41) (d := ch0) rfl _ _ 47 96 Tryz.underlying47 info96 rfl (by decide) (by decide) encCh_one rfl G u4 L rfl HV7.out (some ⟨K7, 0, none⟩) 1 [x] rfl HP8.out HONE.out HSUM.out ?_; intro v8 w8 hb8 hg8)
          | fail)
        have HB8 : Hid (BCh 96 w w8 G v8 (L ++ [x])) := hid hb8
        have HL8 : Hid ((L ++ [x]).length = i + 1) := hid (by rw [List.length_append, HLL.out]; rfl)
        clear hb8 hg8
        try go_wp2
        go_roundg (m - (i + 1))
        case measure => omega
        case rel => exact ⟨i + 1, L ++ [x], by omega, rfl, by go_num, HB8, HL8, HRD2⟩
      · obtain ⟨Y, HY⟩ : ∃ R : List Value, Hid (encCh y = R) := ⟨_, rfl⟩
        have HYL : Hid (Y.length = 41) := hid (by rw [← HY.out]; exact encCh_len hyw)
        have hiY : (Tryz.prog.info? 96).map (·.size) = some Y.length := by rw [HYL.out]; exact size96
        obtain ⟨P, HPP⟩ : ∃ P, Hid (w2.heap.size = P) := ⟨_, rfl⟩
        obtain ⟨w3, hw3, ht3, hb3, hr3⟩ := st_new w2 96 zr Y (by rw [HYL.out, hzs])
        obtain ⟨wa, HWA⟩ : ∃ W, Hid (w2.alloc (.cells zr 96) = W) := ⟨_, rfl⟩
        rw [HWA.out, HPP.out] at hw3 ht3
        rw [HPP.out] at hb3 hr3
        have HW3 := hid hw3
        have T1 : Hid (wa.there P 0 Y.toArray.size) := hid ht3
        have T2 : Hid ((Tryz.prog.info? 96).map (·.size) = some Y.toArray.size) := hid (by rw [List.size_toArray]; exact hiY)
        have T3 : Hid (Y.toArray.all (·.oneCell') = true) := hid (by rw [← HY.out]; exact all_oneCell_toArray (encCh_one _))
        have hbd : Below w3.heap.size w3 w3.drew := ⟨rfl, rfl, rfl, Nat.le_refl _, fun _ _ => rfl⟩
        have HB3 : Hid (BCh 96 w w3.drew G u4 L) := hid (Bx.carry (Bx.carry (Bx.carry HBE.out hb2) (by rw [HPP.out]; exact hb3)) hbd)
        have HRD2 : Hid ((rdC ts).1 = L) := hid (by
          rw [HRD.out, HDR.out, rdC_none hx]
          simp)
        obtain ⟨aa, HAA⟩ : ∃ x, Hid (adX 1 (some ⟨b, off, none⟩) cap i = x) := ⟨_, rfl⟩
        obtain ⟨ca, HCA⟩ : ∃ x : Nat, Hid (cap - i = x) := ⟨_, rfl⟩
        obtain ⟨na, HNA⟩ : ∃ x : Nat, Hid (m - i = x) := ⟨_, rfl⟩
        have hsl : ∀ W : World, (Instr.slice 63 (.slice (some ⟨b, off, none⟩) m cap) (some (.int .i64 i)) none none).run Tryz.prog W = .ok (.slice aa na ca) W := fun W => by
          rw [← HAA.out, ← HCA.out, ← HNA.out]
          exact sl63l _ m cap i (by omega) W
        have al1 : w2.alloc (.cells zr 96) = wa := HWA.out
        have hsP : w2.heap.size = P := HPP.out
        unfold chV
        rw [HY.out]
        clear hw3 ht3 hb3 hr3 hb2 hx hbd hyw
        go_wp2_with (first
          | (refine wpList_store_mid rfl 96 _ _ rfl P 0 Y.toArray rfl rfl T1.out T2.out T3.out ?_; rw [HW3.out])
          | fail)
        refine wp_region_held_drew (S := fun _ => True) (by kernel_rfl) trivial (fun hHeld => ?_)
        generalize w3.drew = w4 at hHeld HB3 ⊢
        refine takeL (i := 0) (v := ?_) rfl (by kernel_rfl) (by kernel_rfl) (by kernel_rfl) (fun _ _ _ h => h) (Or.inl ⟨by rfl, ?_⟩) hHeld ?_
        rotate_left
        · rintro w' _; go_simp; rfl
        try simp only [Act.put, List.setIfInBounds_toArray, List.set_cons_zero, List.set_cons_succ]
        refine takeL (i := 1) (v := ?_) rfl (by kernel_rfl) (by kernel_rfl) (by kernel_rfl) (fun _ _ _ h => h) (Or.inl ⟨by rfl, ?_⟩) hHeld ?_
        rotate_left
        · rintro w' _; go_simp; rfl
        try simp only [Act.put, List.setIfInBounds_toArray, List.set_cons_zero, List.set_cons_succ]
        refine takeL (i := 2) (v := ?_) rfl (by kernel_rfl) (by kernel_rfl) (by kernel_rfl) (fun _ _ _ h => h) (Or.inl ⟨by rfl, ?_⟩) hHeld ?_
        rotate_left
        · rintro w' _; go_simp; rfl
        try simp only [Act.put, List.setIfInBounds_toArray, List.set_cons_zero, List.set_cons_succ]
        refine takeL (i := 3) (v := ?_) rfl (by kernel_rfl) (by kernel_rfl) (by kernel_rfl) (fun _ _ _ h => h) (Or.inl ⟨by rfl, ?_⟩) hHeld ?_
        rotate_left
        · rintro w' _; go_simp; rfl
        try simp only [Act.put, List.setIfInBounds_toArray, List.set_cons_zero, List.set_cons_succ]
        refine takeL (i := 4) (v := ?_) rfl (by kernel_rfl) (by kernel_rfl) (by kernel_rfl) (fun _ _ _ h => h) (Or.inl ⟨by rfl, ?_⟩) hHeld ?_
        rotate_left
        · rintro w' _; go_simp; rfl
        try simp only [Act.put, List.setIfInBounds_toArray, List.set_cons_zero, List.set_cons_succ]
        refine takeL (i := 5) (v := ?_) rfl (by kernel_rfl) (by kernel_rfl) (by kernel_rfl) (fun _ _ _ h => h) (Or.inl ⟨by rfl, ?_⟩) hHeld ?_
        rotate_left
        · rintro w' _; go_simp; rfl
        try simp only [Act.put, List.setIfInBounds_toArray, List.set_cons_zero, List.set_cons_succ]
        refine wpAnyH_done (by kernel_rfl) ?_ _
        clear hHeld
        go_wp2
        refine bodyPost_ret (results_tmp2 Tryz.results108 _ _ _) rfl ?_
        unfold PostRLc
        rw [HRD2.out]
        exact ⟨_, _, HB3.out, rfl⟩
    · have hlti : ¬ (i : Int) < (m : Int) := by omega
      have HRD2 : Hid ((rdC ts).1 = L) := hid (by
        rw [HRD.out, List.drop_of_length_le (by rw [HM.out]; omega)]
        simp [rdC])
      go_wp2
      refine bodyPost_ret (results_tmp2 Tryz.results108 _ _ _) rfl ?_
      unfold PostRLc
      rw [HRD2.out]
      exact ⟨_, _, HBE.out, rfl⟩
set_option maxRecDepth 20000 in
theorem readChanges_any {w : World} (a : Option Addr) (cap : Nat) (ts : List Str) (hP : PS w a cap ts) (hn : ts.length ≤ 20000) (hl : ∀ t ∈ ts, t.length ≤ 10000) (hm : Nm.Mx w) :
    Calls Tryz.prog 81 #[.slice a ts.length cap] w fun e w' => ∃ v, e = .returned v ∧ BCh 96 w w' w.heap.size v (rdC ts).1 := by
  obtain ⟨G, HG⟩ : ∃ n, Hid (w.heap.size = n) := ⟨_, rfl⟩
  obtain ⟨m, HM⟩ : ∃ n, Hid (ts.length = n) := ⟨_, rfl⟩
  have CC : Hid (Calls Tryz.prog 108 #[.slice a m cap, .func (.func 109) #[] #[]] w (PostRLc ts w G)) := hid (by
    rw [← HM.out, ← HG.out]
    exact readListC_any a cap ts hP hn hl hm)
  rw [HM.out, HG.out]
  clear hP hn hl hm
  go_enter Tryz.func81, Tryz.ntmps81
  go_wp2_with fail
  refine CC.out.mono ?_
  rintro e w2 ⟨v, u, hbi, rfl⟩
  have HBI := hid hbi
  clear hbi
  go_wp2
  go_ret
  exact ⟨_, rfl, HBI.out⟩
def PostRBc (s : Str) (w : World) (G : Nat) (e : Ending) (w' : World) : Prop :=
  Below G w w' ∧ ((∃ l v, Ck s l ∧ e = .returned (.tuple #[v, .nilIface]) ∧ BCh 96 w w' G v l) ∨ ((¬ ∃ l, Ck s l) ∧ (∃ ls, okL ls ∧ s = pktL ls) ∧ e = .returned (.tuple #[.slice none 0 0, .iface 37 (.int .i64 111)])) ∨ ((¬ ∃ ls, okL ls ∧ s = pktL ls) ∧ e = .returned (.tuple #[.slice none 0 0, .iface 37 (.int .i64 110)])))
theorem Tryz.results80 : Tryz.f80.results = #[.tmp 6, .tmp 7] := by kernel_rfl
set_option maxRecDepth 20000 in
set_option maxHeartbeats 4000000 in
theorem readBackC_any {w : World} (a : Option Addr) (cap : Nat) (s : Str) (hP : PB w a cap s) (hl : s.length ≤ 20000) (he : Ers w) (hd : Db w) (hm : Nm.Mx w) :
    Calls Tryz.prog 80 #[.slice a s.length cap, .func (.func 81) #[] #[], .func (.func 82) #[] #[]] w (PostRBc s w w.heap.size) := by
  obtain ⟨G, HG⟩ : ∃ n, Hid (w.heap.size = n) := ⟨_, rfl⟩
  obtain ⟨m, HM⟩ : ∃ n, Hid (s.length = n) := ⟨_, rfl⟩
  have HPB : Hid (∀ W, Below G w W → PB W a cap s) := hid (fun W hW => hP.below (by rw [HG.out]; exact hW))
  have HWD : Hid (∀ W, Below G w W → Db W ∧ Ers W ∧ Nm.Mx W) := hid (fun W hW => by
    have hw : Below w.heap.size w W := by rw [HG.out]; exact hW
    exact ⟨hd.below hw, he.below hw, Mx_kept hm (grown_of_below hw none) (by simp)⟩)
  have C99 : Hid (Calls Tryz.prog 99 #[.slice a m cap] w (PostT s w)) := hid (by
    rw [← HM.out]
    exact readTexts_any a cap s hP (by omega) he hd)
  have HL8 := hid hl
  have HGS : Hid (∀ X, Below G w X → G ≤ X.heap.size) := hid (fun X hX => by have := hX.size; have := HG.out; omega)
  rw [HM.out, HG.out]
  clear hP he hd hm hl
  go_enter Tryz.func80, Tryz.ntmps80
  go_wp2_with fail
  refine C99.out.mono ?_
  rintro e w3 ⟨hb3, ⟨ls, hok, hs, v, rfl, hbs⟩ | ⟨hno, rfl⟩⟩
  · rw [HG.out] at hb3
    obtain ⟨at', ct, rfl, hpt, _⟩ := hbs.px (d := []) (encS_len _)
    obtain ⟨ts, HTS⟩ : ∃ u, Hid (ls.map noEnd = u) := ⟨_, rfl⟩
    rw [HTS.out] at hpt
    rw [HTS.out]
    obtain ⟨k, HK⟩ : ∃ n, Hid (ts.length = n) := ⟨_, rfl⟩
    have htl : ts.length ≤ 20000 := by
      rw [← HTS.out, List.length_map]
      have h1 := pktL_cnt ls
      rw [← hs] at h1
      have := HL8.out
      omega
    have hts : ∀ t ∈ ts, t.length ≤ 1000 := fun t ht => by
      rw [← HTS.out] at ht
      obtain ⟨u, hu, rfl⟩ := List.mem_map.1 ht
      have h1 := noEnd_len u
      have h2 := hok u hu
      omega
    have C81 : Hid (Calls Tryz.prog 81 #[.slice at' k ct] w3 fun e w' => ∃ v, e = .returned v ∧ BCh 96 w3 w' w3.heap.size v (rdC ts).1) := hid (by
      rw [← HK.out]
      exact readChanges_any at' ct ts hpt htl (fun t ht => Nat.le_trans (hts t ht) (by omega)) (HWD.out w3 hb3).2.2)
    have HFT : Hid (FitC (rdC ts).1) := hid (fun x hx => by
      have h1 := rdC_len 1000 ts hts x hx
      have h2 := rdC_wf ts x hx
      exact ⟨by omega, h2⟩)
    have HB3 := hid hb3
    have HOK := hid hok
    have HSS := hid hs
    rw [HK.out]
    clear hb3 hok hs hbs hpt htl hts
    go_wp2_with fail
    refine C81.out.mono ?_
    rintro e w4 ⟨v1, rfl, hbi1⟩
    obtain ⟨L, HL⟩ : ∃ l, Hid ((rdC ts).1 = l) := ⟨_, rfl⟩
    rw [HL.out] at hbi1
    obtain ⟨a1, c1, rfl, hp1, _⟩ := hbi1.px (d := ch0) (encCh_ln (by rw [← HL.out]; exact rdC_wf ts))
    obtain ⟨n1, HN1⟩ : ∃ n, Hid (L.length = n) := ⟨_, rfl⟩
    rw [HN1.out] at hbi1
    have HBI1 := hid hbi1
    have hgw4 : Below G w w4 := HB3.out.trans (hbi1.below.mono (HGS.out w3 HB3.out))
    have C82 : Hid (Calls Tryz.prog 82 #[.slice a1 n1 c1] w4 (PostWp L [] w4)) := hid (by
      rw [← HN1.out]
      exact writeP1_any a1 c1 L hp1 (by rw [← HL.out]; exact HFT.out) (HWD.out w4 hgw4).2.2 (HWD.out w4 hgw4).1)
    have HWK : Hid (∀ l2, Ck s l2 → l2 = L) := hid (fun l2 h => by
      have h1 := ck_read h HOK.out HSS.out
      rw [HTS.out, HL.out] at h1
      exact h1.symm)
    have HLS : Hid (∃ ls, okL ls ∧ s = pktL ls) := hid ⟨ls, HOK.out, HSS.out⟩
    have HB4 := hid hgw4
    rw [HN1.out]
    clear hbi1 hp1 hgw4
    go_wp2_with fail
    refine C82.out.mono ?_
    rintro e w6 ⟨hb6, ⟨h1, v, rfl, ho⟩ | ⟨h1, rfl⟩⟩
    · rw [List.append_nil] at ho
      obtain ⟨a6, c6, rfl, hp6, _⟩ := own_pb ho
      obtain ⟨S, HSB⟩ : ∃ S, Hid (chB L = S) := ⟨_, rfl⟩
      rw [HSB.out] at hp6
      rw [HSB.out]
      obtain ⟨q, HQ⟩ : ∃ n, Hid (S.length = n) := ⟨_, rfl⟩
      have hb26 : Below G w w6 := HB4.out.trans (hb6.mono (HGS.out w4 HB4.out))
      have C100 : Hid (Calls Tryz.prog 100 #[.slice a6 q c6, .slice a m cap] w6 fun e w' => e = .returned (.bool (S == s)) ∧ w' = w6) := hid (by
        rw [← HQ.out, ← HM.out]
        exact equal_any a6 c6 S hp6 a cap s (HPB.out w6 hb26))
      have F1 : Hid (BCh 96 w w6 G (.slice a1 n1 c1) L) := hid (by
        have h1 := Bx.carry HBI1.out hb6
        have h2 := HGS.out w3 HB3.out
        exact ⟨hb26, base_mono h1.own h2, Nat.le_trans h2 h1.le⟩)
      have H1 := hid h1
      have HB6 := hid hb26
      rw [HQ.out]
      clear h1 ho hp6 hb6 hb26
      go_wp2_with fail
      refine C100.out.mono ?_
      rintro e w7 ⟨rfl, hw7⟩
      rw [hw7]
      clear hw7 w7
      by_cases hSs : S = s
      · have hbb : (S == s) = true := beq_t hSs
        have HGD : Hid (Ck s L) := hid ⟨H1.out, by rw [← HL.out]; exact rdC_wf ts, by rw [HSB.out]; exact hSs.symm⟩
        rw [hbb]
        clear hbb hSs
        go_wp2
        refine bodyPost_ret (results_tmp2 Tryz.results80 _ _ _) rfl ?_
        exact ⟨HB6.out, .inl ⟨L, _, HGD.out, rfl, F1.out⟩⟩
      · have hbb : (S == s) = false := beq_f hSs
        have HGD : Hid (¬ ∃ l, Ck s l) := hid (fun ⟨l2, h⟩ => by
          have e1 := HWK.out l2 h
          subst e1
          exact hSs (by rw [← HSB.out]; exact h.b.symm))
        rw [hbb]
        clear hbb hSs
        go_wp2
        refine bodyPost_ret (results_tmp2 Tryz.results80 _ _ _) rfl ?_
        exact ⟨HB6.out, .inr (.inl ⟨HGD.out, HLS.out, rfl⟩)⟩
    · have HB6 : Hid (Below G w w6) := hid (HB4.out.trans (hb6.mono (HGS.out w4 HB4.out)))
      have HGD : Hid (¬ ∃ l, Ck s l) := hid (fun ⟨l2, h⟩ => by
        have e1 := HWK.out l2 h
        subst e1
        exact h1 h.ok)
      clear h1 hb6
      go_wp2
      refine bodyPost_ret (results_tmp2 Tryz.results80 _ _ _) rfl ?_
      exact ⟨HB6.out, .inr (.inl ⟨HGD.out, HLS.out, rfl⟩)⟩
  · rw [HG.out] at hb3
    have HB3 := hid hb3
    have HNO := hid hno
    clear hno hb3
    go_wp2
    refine bodyPost_ret (results_tmp2 Tryz.results80 _ _ _) rfl ?_
    exact ⟨HB3.out, .inr (.inr ⟨HNO.out, rfl⟩)⟩
end Go.Proofs.YtijeogdnjeamaaaGreatDoor
namespace Go.Proofs.YtijeogdnjeamaaaGreatDoor
open Go.RowKit
set_option linter.unusedVariables false
set_option linter.unusedSimpArgs false
theorem Tryz.results79 : Tryz.f79.results = #[.tmp 2, .tmp 3] := by kernel_rfl
def PostFe (s : Str) (w : World) (e : Ending) (w' : World) : Prop :=
  Below w.heap.size w w' ∧ ((∃ ls r, Flu s ls r ∧ e = .returned (.tuple #[.int .i64 ((pktL (ls ++ [[]])).length : Nat), .nilIface])) ∨ ((¬ ∃ ls r, Flu s ls r) ∧ e = .returned (.tuple #[.int .i64 0, .iface 37 (.int .i64 110)])))
set_option maxRecDepth 20000 in
set_option maxHeartbeats 4000000 in
theorem flushEnd_any {w : World} (a : Option Addr) (cap : Nat) (s : Str) (hP : PB w a cap s) (hl : s.length ≤ 20000) (he : Ers w) (hd : Db w) : Calls Tryz.prog 79 #[.slice a s.length cap] w (PostFe s w) := by
  obtain ⟨B, HB⟩ : ∃ B, Hid (w.heap.size = B) := ⟨_, rfl⟩
  have HEW : Hid (∀ W, Below B w W → Ers W) := hid (fun W hW => he.below (by rw [HB.out]; exact hW))
  have HDW : Hid (∀ W, Below B w W → Db W) := hid (fun W hW => hd.b hW HB.out.symm)
  obtain ⟨m, HM⟩ : ∃ m, Hid (s.length = m) := ⟨_, rfl⟩
  have hm : m ≤ 20000 := by rw [← HM.out]; exact hl
  have HBW : Hid (∀ W, Below B w W → PB W a cap s) := hid (fun W hW => hP.below (by rw [HB.out]; exact hW))
  have S0 : Hid (Below B w w) := hid (Below.refl _ _)
  have HGS : Hid (∀ X, Below B w X → B ≤ X.heap.size) := hid (fun X hX => by have := hX.size; have := HB.out; omega)
  unfold PostFe
  rw [HM.out, HB.out]
  clear hP hl he hd
  go_enter Tryz.func79, Tryz.ntmps79
  go_wp2_with fail
  go_loopg [4] m (fun gg kv wr => ∃ (k : Nat) (dn : List Str), k ≤ m ∧ gg = m - k ∧ kv = .int .i64 k ∧ Hid (Below B w wr) ∧ Hid (s = pktL dn ++ s.drop k) ∧ Hid ((pktL dn).length = k) ∧ Hid (okL dn) ∧ Hid (∀ x ∈ dn, x ≠ []))
  case atStart => exact ⟨0, [], Nat.zero_le _, rfl, rfl, S0, hid (by simp [pktL]), hid rfl, hid (fun x hx => by simp at hx), hid (fun x hx => by simp at hx)⟩
  case round =>
    obtain ⟨k, dn, hkm, hk, rfl, HBR, HE, HKL, HOK, HNE⟩ := hrel
    obtain ⟨r, HR⟩ : ∃ r, Hid (s.drop k = r) := ⟨_, rfl⟩
    obtain ⟨q, HQ⟩ : ∃ q : Nat, Hid (m - k = q) := ⟨_, rfl⟩
    have HRL : Hid (r.length = q) := hid (by rw [← HR.out, List.length_drop, HM.out, HQ.out])
    obtain ⟨aa, HAA⟩ : ∃ y, Hid (adX 1 a cap k = y) := ⟨_, rfl⟩
    obtain ⟨cc, HCC⟩ : ∃ y : Nat, Hid (cap - k = y) := ⟨_, rfl⟩
    have hsl : ∀ W : World, (Instr.slice 25 (.slice a m cap) (some (.int .i64 k)) none none).run Tryz.prog W = .ok (.slice aa q cc) W := fun W => by
      rw [← HAA.out, ← HCC.out, ← HQ.out]
      exact sl22l a m cap k hkm W
    have HPR : Hid (PB wr aa cc r) := hid (by
      have := Px.from (HBW.out wr HBR.out) k (by rw [HM.out]; exact hkm)
      rw [HAA.out, HCC.out, HR.out] at this
      exact this)
    have CF : Hid (Calls Tryz.prog 107 #[.slice aa q cc] wr (PostF aa cc r wr)) := hid (by
      have := first_any aa cc r HPR.out (by rw [HRL.out]; have := HQ.out; omega) (HEW.out wr HBR.out) (HDW.out wr HBR.out)
      rw [HRL.out] at this
      exact this)
    have HKG : Hid (gk = m - k) := hid hk
    clear hk
    go_wp2_with fail
    refine CF.out.mono ?_
    rintro e w1 ⟨hb1, ⟨n, hf, rfl⟩ | ⟨hno, rfl⟩⟩
    · have HB1 : Hid (Below B w w1) := hid (HBR.out.trans (hb1.mono (HGS.out wr HBR.out)))
      obtain ⟨hpk, hsx⟩ := fst_pkt hf
      have hfl := hf.2.1
      have hf1 := hf.1
      rw [HRL.out] at hfl
      obtain ⟨x, HX⟩ : ∃ x, Hid ((r.drop 4).take n = x) := ⟨_, rfl⟩
      rw [HX.out] at hpk hsx
      have HXL := hid hsx
      have HDD : Hid (r.drop (4 + n) = s.drop (k + (4 + n))) := hid (by rw [← HR.out, List.drop_drop])
      have HEE : Hid (s = pktL (dn ++ [x]) ++ s.drop (k + (4 + n))) := hid (by
        rw [pktL_app, List.append_assoc, show pktL [x] = pkt x by simp [pktL], ← HDD.out, ← hpk, ← HR.out]
        exact HE.out)
      have HLL : Hid ((pktL (dn ++ [x])).length = k + (4 + n)) := hid (by
        rw [pktL_app, List.length_append, HKL.out, show pktL [x] = pkt x by simp [pktL], pkt_len, HXL.out])
      obtain ⟨A4, HA4⟩ : ∃ y, Hid (adX 1 aa cc 4 = y) := ⟨_, rfl⟩
      obtain ⟨A2, HA2⟩ : ∃ y, Hid (adX 1 aa cc (4 + n) = y) := ⟨_, rfl⟩
      obtain ⟨c2, HC2⟩ : ∃ y, Hid (cc - (4 + n) = y) := ⟨_, rfl⟩
      obtain ⟨q2, HQ2⟩ : ∃ y : Nat, Hid (q - (4 + n) = y) := ⟨_, rfl⟩
      obtain ⟨c4, HC4⟩ : ∃ y, Hid (cc - 4 = y) := ⟨_, rfl⟩
      obtain ⟨k2, HK2⟩ : ∃ y : Nat, Hid (k + (4 + n) = y) := ⟨_, rfl⟩
      have hsub : (m : Int) - (q2 : Int) = (k2 : Int) := by
        have := HQ.out
        have := HQ2.out
        have := HK2.out
        omega
      have hk2 : k2 ≤ m := by
        have := HQ.out
        have := HK2.out
        omega
      have hkl : k < k2 := by have := HK2.out; omega
      rw [HK2.out] at HEE HLL
      rw [HA4.out, HA2.out, HC2.out, HRL.out, HQ2.out, HC4.out]
      clear hf hb1 hpk hsx
      by_cases h0 : n = 0
      · have hn0 : ((n : Int) == 0) = true := by subst h0; rfl
        have hn1 : (n : Int) = 0 := by omega
        have HFL : Hid (Flu s dn (s.drop k2)) := hid ⟨HOK.out, HNE.out, by
          have h1 : x = [] := List.length_eq_zero_iff.1 (by rw [HXL.out]; exact h0)
          have h2 := HEE.out
          rw [h1] at h2
          exact h2⟩
        have HLN : Hid ((pktL (dn ++ [[]])).length = k2) := hid (by
          have h1 : x = [] := List.length_eq_zero_iff.1 (by rw [HXL.out]; exact h0)
          have h2 := HLL.out
          rw [h1] at h2
          exact h2)
        clear h0
        go_wp2
        refine bodyPost_ret (results_tmp2 Tryz.results79 _ _ _) rfl ?_
        exact ⟨HB1.out, .inl ⟨_, _, HFL.out, by rw [HLN.out]; rfl⟩⟩
      · have hn0 : ((n : Int) == 0) = false := by simp; omega
        have hn1 : ¬ (n : Int) = 0 := by omega
        have HOK2 : Hid (okL (dn ++ [x])) := hid (fun y hy => (List.mem_append.1 hy).elim (HOK.out y) (fun h => by rw [List.mem_singleton.1 h, HXL.out]; exact hf1))
        have HNE2 : Hid (∀ y ∈ dn ++ [x], y ≠ []) := hid (fun y hy => (List.mem_append.1 hy).elim (HNE.out y) (fun h => by
          rw [List.mem_singleton.1 h]
          intro e
          have := HXL.out
          rw [e] at this
          exact h0 this.symm))
        clear h0
        go_wp2
        go_roundg (m - k2)
        case measure => have := HKG.out; omega
        case rel => exact ⟨k2, dn ++ [x], hk2, rfl, by go_num, HB1, HEE, HLL, HOK2, HNE2⟩
    · have HB1 : Hid (Below B w w1) := hid (HBR.out.trans (hb1.mono (HGS.out wr HBR.out)))
      have HNO : Hid (¬ ∃ ls r, Flu s ls r) := hid (fl_no HOK.out HNE.out (by rw [← HR.out]; exact HE.out) hno)
      clear hb1 hno
      go_wp2
      refine bodyPost_ret (results_tmp2 Tryz.results79 _ _ _) rfl ?_
      exact ⟨HB1.out, .inr ⟨HNO.out, rfl⟩⟩
theorem Tryz.results46 : Tryz.f46.results = #[.tmp 2, .tmp 3, .tmp 4] := by kernel_rfl
def PostRP (s : Str) (w : World) (G : Nat) (e : Ending) (w' : World) : Prop :=
  Below G w w' ∧ ((∃ l p v u, Cok s l p ∧ e = .returned (.tuple #[v, u, .nilIface]) ∧ BCh 96 w w' G v l ∧ w'.ownsRow G 5 1 u p.length (bv p)) ∨ ((¬ ∃ l p, Cok s l p) ∧ (∃ ls r, Flu s ls r) ∧ e = .returned (.tuple #[.slice none 0 0, .slice none 0 0, .iface 37 (.int .i64 111)])) ∨ ((¬ ∃ ls r, Flu s ls r) ∧ e = .returned (.tuple #[.slice none 0 0, .slice none 0 0, .iface 37 (.int .i64 110)])))
set_option maxRecDepth 20000 in
set_option maxHeartbeats 2000000 in
theorem readPush_any {w : World} (a : Option Addr) (cap : Nat) (s : Str) (hP : PB w a cap s) (hl : s.length ≤ 20000) (he : Ers w) (hd : Db w) (hm : Nm.Mx w) :
    Calls Tryz.prog 46 #[.slice a s.length cap] w (PostRP s w w.heap.size) := by
  obtain ⟨G, HG⟩ : ∃ n, Hid (w.heap.size = n) := ⟨_, rfl⟩
  obtain ⟨m, HM⟩ : ∃ n, Hid (s.length = n) := ⟨_, rfl⟩
  have C79 : Hid (Calls Tryz.prog 79 #[.slice a m cap] w (PostFe s w)) := hid (by
    rw [← HM.out]
    exact flushEnd_any a cap s hP hl he hd)
  have HPB : Hid (∀ W, Below G w W → PB W a cap s) := hid (fun W hW => hP.below (by rw [HG.out]; exact hW))
  have HWD : Hid (∀ W, Below G w W → Ers W ∧ Db W ∧ Nm.Mx W) := hid (fun W hW => by
    have hw : Below w.heap.size w W := by rw [HG.out]; exact hW
    exact ⟨he.below hw, hd.below hw, Mx_kept hm (grown_of_below hw none) (by simp)⟩)
  have HSM : Hid (0 < s.length → ∃ p, a = some p) := hid (fun h => by
    obtain ⟨b, off, e1, _⟩ := hP.at_ h
    exact ⟨_, e1⟩)
  have HCL : Hid (s.length ≤ cap) := hid hP.capl
  have HL2 := hid hl
  have HGS : Hid (∀ X, Below G w X → G ≤ X.heap.size) := hid (fun X hX => by have := hX.size; have := HG.out; omega)
  rw [HM.out, HG.out]
  clear hP hl he hd hm
  go_enter Tryz.func46, Tryz.ntmps46
  go_wp2_with fail
  refine C79.out.mono ?_
  rintro e w1 ⟨hb1, ⟨ls, r, hf, rfl⟩ | ⟨hno, rfl⟩⟩
  · rw [HG.out] at hb1
    have HB1 := hid hb1
    have HF := hid hf
    obtain ⟨s0, HS0⟩ : ∃ u, Hid (pktL (ls ++ [[]]) = u) := ⟨_, hid rfl⟩
    obtain ⟨n, HN⟩ : ∃ n, Hid (s0.length = n) := ⟨_, rfl⟩
    have hsb : s = s0 ++ r := by rw [← HS0.out]; exact hf.b
    have hn4 : 4 ≤ n := by
      rw [← HN.out, ← HS0.out, pktL_app, List.length_append]
      have : (pktL [[]]).length = 4 := rfl
      omega
    have hnm : n ≤ m := by rw [← HN.out, ← HM.out, hsb, List.length_append]; omega
    have htk : s.take n = s0 := by rw [hsb]; exact List.take_left' HN.out
    have hdr : s.drop n = r := by rw [hsb]; exact List.drop_left' HN.out
    have hs4 : ∀ W : World, (Instr.slice 25 (.slice a m cap) none (some (.int .i64 n)) none).run Tryz.prog W = .ok (.slice a n cap) W := fun W => sl4 a m cap n (by have := HCL.out; have := HM.out; omega) W
    obtain ⟨p, hp⟩ := HSM.out (by rw [HM.out]; omega)
    obtain ⟨p2, hp2⟩ := adX_some (cap := cap) (j := n) ⟨p, hp⟩
    obtain ⟨c2, HC2⟩ : ∃ y : Nat, Hid (cap - n = y) := ⟨_, rfl⟩
    obtain ⟨q, HQ⟩ : ∃ y : Nat, Hid (m - n = y) := ⟨_, rfl⟩
    have HRL : Hid (r.length = q) := hid (by rw [← hdr, List.length_drop, HM.out, HQ.out])
    have hsl : ∀ W : World, (Instr.slice 25 (.slice a m cap) (some (.int .i64 n)) none none).run Tryz.prog W = .ok (.slice (some p2) q c2) W := fun W => by
      rw [← hp2, ← HC2.out, ← HQ.out]
      exact sl22l a m cap n hnm W
    have HPT : Hid (∀ W, Below G w W → PB W a cap s0) := hid (fun W hW => by
      have := Px.take (HPB.out W hW) n
      rw [htk] at this
      exact this)
    have HPD : Hid (∀ W, Below G w W → PB W (some p2) c2 r) := hid (fun W hW => by
      have := Px.from (HPB.out W hW) n (by rw [HM.out]; exact hnm)
      rw [hp2, HC2.out, hdr] at this
      exact this)
    have C80 : Hid (Calls Tryz.prog 80 #[.slice a n cap, .func (.func 81) #[] #[], .func (.func 82) #[] #[]] w1 (PostRBc s0 w1 w1.heap.size)) := hid (by
      obtain ⟨h1, h2, h3⟩ := HWD.out w1 hb1
      rw [← HN.out]
      exact readBackC_any a cap s0 (HPT.out w1 hb1) (by have := HN.out; have := HL2.out; have := HM.out; omega) h1 h2 h3)
    have C83 : Hid (∀ W, Below G w W → Calls Tryz.prog 83 #[.slice (some p2) q c2] W fun e w' => ∃ v, e = .returned v ∧ w'.ownsRow W.heap.size 5 1 v r.length (bv r) ∧ Below W.heap.size W w') := hid (fun W hW => by
      have := clone_any p2 c2 r (HPD.out W hW) (by have := HRL.out; have := HQ.out; have := HL2.out; have := HM.out; omega)
      rw [HRL.out] at this
      rw [HRL.out]
      exact this)
    have HCK : Hid (∀ l, Ck s0 l ↔ Cok s l r) := hid (fun l => by rw [← HS0.out]; exact fl_ck hf l)
    have HCR : Hid (∀ l p, Cok s l p → p = r) := hid (fun l p h => cok_r hf h)
    have HOL : Hid (∃ ls, okL ls ∧ s0 = pktL ls) := hid ⟨_, fl_lines hf.ok, HS0.out.symm⟩
    have HEX : Hid (∃ ls r, Flu s ls r) := hid ⟨_, _, hf⟩
    rw [HS0.out, HN.out]
    clear hb1 hf hsb hn4 htk hdr hp hp2
    go_wp2_with fail
    refine C80.out.mono ?_
    rintro e w2 ⟨hb2, ⟨l, v, hck, rfl, hbi⟩ | ⟨hno, _, rfl⟩ | ⟨hno, _⟩⟩
    · have HB2 : Hid (Below G w w2) := hid (HB1.out.trans (hb2.mono (HGS.out w1 HB1.out)))
      have HOK : Hid (Cok s l r) := hid ((HCK.out l).1 hck)
      have HBI := hid hbi
      clear hb2 hck hbi
      go_wp2_with fail
      refine (C83.out w2 HB2.out).mono ?_
      rintro e w3 ⟨u, rfl, ho, hb3⟩
      have HB3 : Hid (Below G w w3) := hid (HB2.out.trans (hb3.mono (HGS.out w2 HB2.out)))
      have HO : Hid (w3.ownsRow G 5 1 u r.length (bv r)) := hid (base_mono ho (HGS.out w2 HB2.out))
      have F1 : Hid (BCh 96 w w3 G v l) := hid (by
        have h1 := Bx.carry HBI.out hb3
        have h2 := HGS.out w1 HB1.out
        exact ⟨HB3.out, base_mono h1.own h2, Nat.le_trans h2 h1.le⟩)
      clear ho hb3
      go_wp2
      refine bodyPost_ret (results_tmp3 Tryz.results46 _ _) rfl ?_
      exact ⟨HB3.out, .inl ⟨l, r, _, _, HOK.out, rfl, F1.out, HO.out⟩⟩
    · have HB2 : Hid (Below G w w2) := hid (HB1.out.trans (hb2.mono (HGS.out w1 HB1.out)))
      have HNO : Hid (¬ ∃ l p, Cok s l p) := hid (fun ⟨l, p, h⟩ => hno ⟨l, (HCK.out l).2 (by rw [HCR.out l p h] at h; exact h)⟩)
      clear hb2 hno
      go_wp2
      refine bodyPost_ret (results_tmp3 Tryz.results46 _ _) rfl ?_
      exact ⟨HB2.out, .inr (.inl ⟨HNO.out, HEX.out, rfl⟩)⟩
    · exact absurd HOL.out hno
  · rw [HG.out] at hb1
    have HB1 := hid hb1
    have HNO := hid hno
    clear hb1 hno
    go_wp2
    refine bodyPost_ret (results_tmp3 Tryz.results46 _ _) rfl ?_
    exact ⟨HB1.out, .inr (.inr ⟨HNO.out, rfl⟩)⟩
end Go.Proofs.YtijeogdnjeamaaaGreatDoor
namespace Go.Proofs.YtijeogdnjeamaaaGreatDoor
open Go.RowKit
set_option linter.unusedVariables false
set_option linter.unusedSimpArgs false
set_option maxRecDepth 20000 in
theorem text_any {w : World} (s : Str) (hs : s ≠ []) (hl : s.length ≤ 990) : Calls Tryz.prog 33 #[.string ⟨s.toArray⟩] w (PostLi (tx s) w) := by
  obtain ⟨X, HX⟩ : ∃ X : ByteArray, Hid (⟨s.toArray⟩ = X) := ⟨_, hid rfl⟩
  obtain ⟨Y, HY⟩ : ∃ X : ByteArray, Hid (⟨(tx s).toArray⟩ = X) := ⟨_, hid rfl⟩
  have htx : tx s = s ++ [10] := by rw [tx, if_neg hs]
  have hcat : X ++ ⟨#[10]⟩ = Y := by rw [← HX.out, ← HY.out, htx]; exact str_app s [10]
  obtain ⟨q, HQ⟩ : ∃ q, Hid (s.length = q) := ⟨_, rfl⟩
  have hq990 : q ≤ 990 := by rw [← HQ.out]; exact hl
  have hxz : X.size = q := by rw [← HX.out, txt_len]; exact HQ.out
  have h10 : (⟨#[10]⟩ : ByteArray).size = 1 := rfl
  obtain ⟨c2, w2, hr2, hp2, hb2⟩ := conv_bytes (tx s) w
  rw [HY.out] at hr2
  obtain ⟨K, HK2⟩ : ∃ K, Hid ((tx s).length = K) := ⟨_, rfl⟩
  rw [HK2.out] at hr2
  obtain ⟨G, HG⟩ : ∃ n, Hid (w.heap.size = n) := ⟨_, rfl⟩
  have CL : Hid (Calls Tryz.prog 60 #[.slice (some ⟨G, 0, none⟩) K c2] w2 (PostLi (tx s) w2)) := hid (by
    rw [← HK2.out]
    exact line_any _ c2 (tx s) (by rw [← HG.out]; exact hp2) (by rw [htx, List.length_append]; simp; omega))
  rw [HG.out] at hr2
  have HB2 := hid hb2
  rw [HX.out]
  unfold PostLi
  clear hp2 hb2 hs htx hl
  go_enter Tryz.func33, Tryz.ntmps33
  go_wp2_with fail
  refine CL.out.mono ?_
  rintro e w3 ⟨hb3, g, c, rfl, hg, hp⟩
  have H1 : Hid (Below w.heap.size w w3) := hid (HB2.out.trans (hb3.mono HB2.out.size))
  have H2 : Hid (w.heap.size ≤ g) := hid (Nat.le_trans HB2.out.size hg)
  have H3 := hid hp
  clear hb3 hg hp
  go_wp2
  go_ret
  exact ⟨H1.out, g, c, rfl, H2.out, H3.out⟩
end Go.Proofs.YtijeogdnjeamaaaGreatDoor
