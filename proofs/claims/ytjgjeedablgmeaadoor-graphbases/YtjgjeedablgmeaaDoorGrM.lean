/- 'childrenAmong'. -/
import Derived.Test.YtjgjeedablgmeaaDoorGrL
namespace Go.Proofs.YtjgjeedablgmeaaDoor
open Go.RowKit
set_option linter.unusedVariables false
set_option linter.unusedSimpArgs false
structure QM (H G : Nat) (RF : List Value) (c : Int) (W : World) : Prop where
  r0 : W.rangeAt H 0 RF
  lk : (Instr.lookup 75 (.map (some G)) (.agg RF.toArray) false).run Tryd.prog W = .ok (.int .i64 c) W
theorem cnt_le (L : List Nd) (h : ∀ x ∈ L, x.ps.length ≤ 40) (p : List Int) : cnt L p ≤ 40 * L.length := by
  induction L with
  | nil => simp [cnt_nil]
  | cons x r ih =>
    rw [cnt_cons]
    have h1 := ih (fun y hy => h y (by simp [hy]))
    have h2 := h x (by simp)
    have h3 : x.ps.count p ≤ x.ps.length := List.count_le_length
    simp only [List.length_cons]
    omega
/-- Counts: of each id, how often it was named. -/
def Cn (f : List Int → Option Int) (c : List Int → Nat) : Prop := ∀ p, (f p).getD 0 = (c p : Int)
theorem Cn.inc {f : List Int → Option Int} {c c' : List Int → Nat} {y : List Int} (h : Cn f c) (hy : c' y = c y + 1) (ho : ∀ p, p ≠ y → c' p = c p) : Cn (updF f y ((f y).getD 0 + 1)) c' := fun p => by
  unfold updF
  by_cases e : p = y
  · subst e
    rw [if_pos rfl, hy]
    have := h p
    simp only [Option.getD_some]
    omega
  · rw [if_neg e, ho p e]; exact h p
def PostCh (L : List Nd) (w : World) (e : Ending) (w' : World) : Prop := Below w.heap.size w w' ∧ ∃ g n f s, e = .returned (.map (some g)) ∧ w.heap.size ≤ g ∧ n ≤ 1700 ∧ MI w' g n f s ∧ Cn f (cnt L)
theorem zero75 (w : World) : (Instr.makeMap 75 none).run Tryd.prog w = .ok (.map (some w.heap.size)) (w.alloc (.map #[] 0)) := by kernel_rfl
set_option maxRecDepth 20000 in
set_option maxHeartbeats 2000000 in
theorem children_any {w : World} (a : Option Addr) (cap : Nat) (L : List Nd) (hP : Pn w a cap L) (hw : ∀ x ∈ L, NdW w x) (hn : L.length ≤ 40) (hps : ∀ x ∈ L, x.ps.length ≤ 40) : Calls Tryd.prog 46 #[.slice a L.length cap] w (PostCh L w) := by
  obtain ⟨G, HG⟩ : ∃ G, Hid (w.heap.size = G) := ⟨_, rfl⟩
  obtain ⟨n, HN⟩ : ∃ n, Hid (L.length = n) := ⟨_, rfl⟩
  have hn40 : n ≤ 40 := by rw [← HN.out]; exact hn
  have HPA : Hid (∀ W, Below G w W → Pn W a cap L) := fun W hW => hP.below (by rw [HG.out]; exact hW)
  have HWF : Hid (∀ W, Below G w W → ∀ x ∈ L, NdW W x) := fun W hW x hx => (hw x hx).below (by rw [HG.out]; exact hW)
  have HPS : Hid (∀ x ∈ L, x.ps.length ≤ 40) := hps
  obtain ⟨zr, HZ⟩ : ∃ zr : Array Value, Hid (zr = (ndV nd0).toArray) := ⟨_, rfl⟩
  have hz53 : ∀ w : World, (zeroValue 53).run Tryd.prog w = .ok (.agg zr) w := fun w => by rw [HZ.out]; exact zero53 w
  obtain ⟨zi, HZI⟩ : ∃ zr : Array Value, Hid (zr = (row .u8 z20).toArray) := ⟨_, rfl⟩
  have hz42 : ∀ w : World, (zeroValue 42).run Tryd.prog w = .ok (.agg zi) w := fun w => by rw [HZI.out]; exact zero42 w
  have HPL : Hid (0 < n → ∃ b off, a = some ⟨b, off, none⟩ ∧ b < G) := fun h0 => by
    obtain ⟨b, off, e1, e2, _⟩ := hP.at_ (by rw [HN.out]; exact h0)
    exact ⟨b, off, e1, by rw [← HG.out]; exact e2⟩
  have hmk := zero75 w
  obtain ⟨w1, HW1⟩ : ∃ w1, Hid (w.alloc (.map #[] 0) = w1) := ⟨_, rfl⟩
  have HB1 : Hid (Below G w w1) := hid (by rw [← HW1.out, ← HG.out]; exact (Below.refl _ w).alloc (Nat.le_refl _) _)
  have HM1 : Hid (MI w1 G 0 (fun _ => none) 0) := hid (by rw [← HW1.out, ← HG.out]; exact mi_made w)
  have HC1 : Hid (Cn (fun _ => none) (cnt (L.take 0))) := fun p => by simp [cnt_nil]
  rw [HN.out]
  clear hP hw hps
  go_enter Tryd.func46, Tryd.ntmps46
  go_wp2_with fail
  rw [HW1.out, HG.out]
  go_loopg [11] n (fun gg iv wr => ∃ (i q s : Nat) (f : List Int → Option Int), i ≤ n ∧ gg = n - i ∧ iv = .int .i64 i ∧ q ≤ 40 * i ∧ Hid (MI wr G q f s) ∧ Hid (Below G w wr) ∧ Hid (Cn f (cnt (L.take i))))
  case atStart => exact ⟨0, 0, 0, _, Nat.zero_le _, rfl, rfl, Nat.le_refl _, HM1, HB1, HC1⟩
  case round =>
    obtain ⟨i, q, s, f, hi, hk, rfl, hq, HMr, HBr, HCr⟩ := hrel
    by_cases hlt : i < n
    · have hlti : (i : Int) < (n : Int) := by omega
      obtain ⟨b, off, hae, hbG⟩ := HPL.out (by omega)
      subst hae
      obtain ⟨x, HX⟩ : ∃ x, Hid (L.getD i nd0 = x) := ⟨_, rfl⟩
      have hxm : x ∈ L := by rw [← HX.out]; exact getD_mem L i _ (by rw [HN.out]; exact hlt)
      have hxw := HWF.out wr HBr.out x hxm
      have HXW : Hid (IdW x.id) := hxw.id
      obtain ⟨k, HK⟩ : ∃ k, Hid (x.ps.length = k) := ⟨_, rfl⟩
      obtain ⟨pa, HPa⟩ : ∃ k, Hid (x.pa = k) := ⟨_, rfl⟩
      obtain ⟨pc, HPc⟩ : ∃ k, Hid (x.pc = k) := ⟨_, rfl⟩
      have hk40 : k ≤ 40 := by rw [← HK.out]; exact HPS.out x hxm
      have HPI : Hid (∀ p ∈ x.ps, IdW p) := hxw.ps
      have HPM : Hid (∀ W, Below G w W → Pa W pa pc x.ps) := fun W hW => by have := (HWF.out W hW x hxm).mem; rw [HPa.out, HPc.out] at this; exact this
      have HPLP : Hid (0 < k → ∃ b off, pa = some ⟨b, off, none⟩) := fun h0 => by
        have := hxw.mem
        rw [HPa.out, HPc.out] at this
        obtain ⟨b, off, e1, e2, _⟩ := this.at_ (by rw [HK.out]; exact h0)
        exact ⟨b, off, e1⟩
      obtain ⟨R, HR⟩ : ∃ R : List Value, Hid (ndV x = R) := ⟨_, rfl⟩
      have HRL : Hid (R.length = 22) := hid (by rw [← HR.out]; exact ndV_len x HXW.out.1)
      have hiR : (Tryd.prog.info? 53).map (·.size) = some R.length := by rw [HRL.out]; exact Tryd.size53
      have RR : Hid (wr.rangeAt b (off + i * 22) R) := hid (by
        obtain ⟨b', off', e1, _, e3⟩ := (HPA.out wr HBr.out).at_ (by rw [HN.out]; omega)
        cases e1
        have := e3 i (by rw [HN.out]; exact hlt)
        rw [HX.out, HR.out] at this
        exact this)
      have I53 : Hid ((Tryd.prog.info? 53).map (·.size) = some R.toArray.size) := hid (by rw [List.size_toArray]; exact hiR)
      have E53 : Hid (zr.size = R.toArray.size) := hid (by rw [HZ.out, List.size_toArray, List.size_toArray, HRL.out]; rfl)
      have O53 : Hid (R.toArray.all (·.oneCell') = true) := hid (by rw [← HR.out]; exact all_oneCell_toArray (ndV_one x))
      have D0 : Hid ((wr.alloc (.cells zr 53)).heap[wr.heap.size]? = some (.cells zr 53 (0, 0))) := heap_alloc_new wr _
      obtain ⟨w3, HW3⟩ : ∃ w3, Hid ((wr.alloc (.cells zr 53)).setRow wr.heap.size R.toArray = w3) := ⟨_, rfl⟩
      obtain ⟨H0, HH0⟩ : ∃ H, Hid (wr.heap.size = H) := ⟨_, rfl⟩
      have hb3 : Below wr.heap.size wr w3 := by rw [← HW3.out]; exact below_setRow ((Below.refl _ wr).alloc (Nat.le_refl _) _) (Nat.le_refl _) _
      have HX3 : Hid (w3.heap[H0]? = some (.cells R.toArray 53 (0, 0))) := hid (by rw [← HW3.out, ← HH0.out]; exact setRow_heap _ _ _ R.toArray _ _ D0.out)
      have hps3 : w3.cell? ⟨H0, 20, none⟩ = some (.slice pa k pc) := by
        have := nd_ps (x := x) (b := H0) (o := 0) (W := w3) (by rw [HR.out]; exact range_row HX3.out) HXW.out.1
        rw [HPa.out, HK.out, HPc.out, Nat.zero_add] at this
        exact this
      have hGw : G < wr.heap.size := HMr.out.lt
      have HB3 : Hid (Below G w w3) := hid (HBr.out.trans (hb3.mono (Nat.le_of_lt hGw)))
      have HM3 : Hid (MI w3 G q f s) := hid (HMr.out.below hb3)
      have HC3 : Hid (Cn f (fun p => cnt (L.take i) p + (x.ps.take 0).count p)) := hid (fun p => by have := HCr.out p; simpa using this)
      have HTK : Hid (∀ p, cnt (L.take (i + 1)) p = cnt (L.take i) p + x.ps.count p) := fun p => by
        rw [take_snocG nd0 L i (by rw [HN.out]; exact hlt), HX.out, cnt_app, cnt_cons, cnt_nil, Nat.add_zero]
      have HCL : Hid (∀ p, cnt (L.take i) p ≤ 1600) := fun p => by
        have := cnt_le (L.take i) (fun y hy => HPS.out y (List.mem_of_mem_take hy)) p
        rw [List.length_take] at this
        omega
      clear hb3 hxm hxw
      go_wp2_with (first
        | refine wpList_load_mid rfl 53 _ rfl b (off + i * 22) rfl R _ RR.out Tryd.underlying53 rfl hiR ?_
        | (refine wpList_store_row rfl 53 _ _ rfl wr.heap.size R.toArray rfl rfl 53 zr D0.out I53.out E53.out O53.out ?_; rw [HW3.out, HH0.out])
        | fail)
      go_loopg [18] k (fun gg jv wr => ∃ (j q s : Nat) (f : List Int → Option Int), j ≤ k ∧ gg = k - j ∧ jv = .int .i64 j ∧ q ≤ 40 * i + j ∧ Hid (MI wr G q f s) ∧ Hid (Below G w wr) ∧ Hid (Cn f (fun p => cnt (L.take i) p + (x.ps.take j).count p)))
      case atStart => exact ⟨0, q, s, f, Nat.zero_le _, rfl, rfl, by omega, HM3, HB3, HC3⟩
      case round =>
        clear HMr HBr HCr HM3 HB3 HC3 hq hps3 HX3
        obtain ⟨j, q, s, f, hj, hkk, rfl, hq, HMr, HBr, HCr⟩ := hrel
        by_cases hlt2 : j < k
        · have hltj : (j : Int) < (k : Int) := by omega
          obtain ⟨pb, po, hpe⟩ := HPLP.out (by omega)
          subst hpe
          obtain ⟨y, HY⟩ : ∃ y, Hid (x.ps.getD j [] = y) := ⟨_, rfl⟩
          have hym : y ∈ x.ps := by rw [← HY.out]; exact getD_mem _ j _ (by rw [HK.out]; exact hlt2)
          have HYW : Hid (IdW y) := HPI.out y hym
          obtain ⟨RF, HRF⟩ : ∃ R : List Value, Hid (row .u8 y = R) := ⟨_, rfl⟩
          have RP : Hid (wr.rangeAt pb (po + j * 20) RF) := hid (by
            obtain ⟨b', off', e1, _, e3⟩ := (HPM.out wr HBr.out).at_ (by rw [HK.out]; omega)
            cases e1
            have := e3 j (by rw [HK.out]; exact hlt2)
            rw [HY.out, HRF.out] at this
            exact this)
          have HFN : Hid (RF.length = 20) := hid (by rw [← HRF.out, row_len]; exact HYW.out.1)
          have hi42 : (Tryd.prog.info? 42).map (·.size) = some RF.length := by rw [HFN.out]; exact Tryd.size42
          have I42 : Hid ((Tryd.prog.info? 42).map (·.size) = some RF.toArray.size) := hid (by rw [List.size_toArray]; exact hi42)
          have E42 : Hid (zi.size = RF.toArray.size) := hid (by rw [HZI.out, List.size_toArray, List.size_toArray, HFN.out]; rfl)
          have O42 : Hid (RF.toArray.all (·.oneCell') = true) := hid (by rw [← HRF.out]; exact all_oneCell_toArray (row_one _ _))
          have D1 : Hid ((wr.alloc (.cells zi 42)).heap[wr.heap.size]? = some (.cells zi 42 (0, 0))) := heap_alloc_new wr _
          obtain ⟨w4, HW4⟩ : ∃ w3, Hid ((wr.alloc (.cells zi 42)).setRow wr.heap.size RF.toArray = w3) := ⟨_, rfl⟩
          obtain ⟨H, HH⟩ : ∃ H, Hid (wr.heap.size = H) := ⟨_, rfl⟩
          have hb4 : Below wr.heap.size wr w4 := by rw [← HW4.out]; exact below_setRow ((Below.refl _ wr).alloc (Nat.le_refl _) _) (Nat.le_refl _) _
          have HX4 : Hid (w4.heap[H]? = some (.cells RF.toArray 42 (0, 0))) := hid (by rw [← HW4.out, ← HH.out]; exact setRow_heap _ _ _ RF.toArray _ _ D1.out)
          have hGw4 : G < wr.heap.size := HMr.out.lt
          have hGH : G < H := by rw [← HH.out]; exact hGw4
          have HB4 : Hid (Below G w w4.drew) := hid (below_drewH (HBr.out.trans (hb4.mono (Nat.le_of_lt hGw4))) 1)
          have HM4 : Hid (MI w4.drew G q f s) := hid (HMr.out.below (below_drewH hb4 1))
          have HR4 : Hid (w4.drew.rangeAt H 0 RF) := hid (range_row HX4.out)
          have hH4 : H < w4.drew.heap.size := lt_of_some HX4.out
          obtain ⟨c, HC⟩ : ∃ c, Hid ((f y).getD 0 = c) := ⟨_, rfl⟩
          have hcb : 0 ≤ c ∧ c ≤ 1700 := by
            have h1 := HCr.out y
            have h2 := HCL.out y
            have h3 : (x.ps.take j).count y ≤ j := Nat.le_trans List.count_le_length (by rw [List.length_take]; omega)
            rw [HC.out] at h1
            simp only at h1
            omega
          obtain ⟨hc0, hc1⟩ := hcb
          have hwrap : IntKind.i64.wrap (c + 1) = c + 1 := by rw [IntKind.wrap_i64]; omega
          obtain ⟨v0, st, w5, he1, hg5, hl5, w6, he2, hm6, hg6⟩ := HM4.out.entry2 (by omega) HYW.out (c + 1) (WalkArith.wf_i64 (by omega))
          unfold idV at he1 hl5
          rw [HRF.out] at he1 hl5
          rw [HC.out] at hl5
          have HE1 : Hid ((Instr.mapEntry 75 (.map (some G)) (.agg RF.toArray)).run Tryd.prog w4.drew = .ok (.tuple #[v0, goInt st]) w5) := he1
          have HE2 : Hid ((Instr.entryStore 75 (.map (some G)) (goInt st) (.int .i64 (c + 1))).run Tryd.prog w5 = .ok () w6) := he2
          have hS0 : Hid (QM H G RF c w4.drew) := hid ⟨HR4.out, by
            have := (HM4.out.get HYW.out).1
            unfold idV at this
            rw [HRF.out, HC.out] at this
            exact this⟩
          have hS1 : Hid (QM H G RF c w5) := hid ⟨range_row ((hg5.block H hH4 (by simp; omega)).trans HX4.out), hl5⟩
          have HB6 : Hid (Below G w w6) := hid (HB4.out.grown hg6 (by omega) (fun k hk => by cases hk; exact Nat.le_refl _))
          have HM6 : Hid (MI w6 G (q + 1) (updF f y (c + 1)) (if (f y).isSome then s else s + 1)) := hm6
          have HC6 : Hid (Cn (updF f y (c + 1)) (fun p => cnt (L.take i) p + (x.ps.take (j + 1)).count p)) := hid (by
            have := HCr.out.inc (c' := fun p => cnt (L.take i) p + (x.ps.take (j + 1)).count p) (y := y) (by
              rw [take_snocG [] x.ps j (by rw [HK.out]; exact hlt2), HY.out, List.count_append]
              simp [List.count_cons]
              omega) (fun p hp => by
              rw [take_snocG [] x.ps j (by rw [HK.out]; exact hlt2), HY.out, List.count_append]
              have : ¬ y = p := fun e => hp e.symm
              simp [List.count_cons, this])
            rw [HC.out] at this
            exact this)
          clear hb4 hym he1 hg5 hl5 he2 hm6 hg6
          go_wp2_with (first
            | refine wpList_load_mid rfl 42 _ rfl pb (po + j * 20) rfl RF _ RP.out Tryd.underlying42 rfl hi42 ?_
            | (refine wpList_store_row rfl 42 _ _ rfl wr.heap.size RF.toArray rfl rfl 42 zi D1.out I42.out E42.out O42.out ?_; rw [HW4.out, HH.out])
            | fail)
          refine region_B (QM H G RF c) (fun q => q == 6) (by kernel_rfl) ?_
          refine takeT (i := 0) (v := ?_) rfl (by kernel_rfl) (by kernel_rfl) (by kernel_rfl) (fun _ _ _ h => h) (Or.inl ⟨by rfl, ?_⟩) ?_
          rotate_left
          · rintro w' _; go_simp; rfl
          try simp only [Act.put, List.setIfInBounds_toArray, List.set_cons_zero, List.set_cons_succ]
          refine takeB (i := 1) (v := .agg RF.toArray) rfl (by kernel_rfl) (by kernel_rfl) (by kernel_rfl) (by kernel_rfl) (fun _ _ _ h => h) (yieldsIf_load_mid (by kernel_rfl) 42 _ rfl H 0 (by rfl) RF _ (fun w' h => h.r0) Tryd.underlying42 rfl hi42) hS0.out ?_
          try simp only [Act.put, List.setIfInBounds_toArray, List.set_cons_zero, List.set_cons_succ]
          refine takeB (i := 2) (v := .int .i64 c) rfl (by kernel_rfl) (by kernel_rfl) (by kernel_rfl) (by kernel_rfl) (fun _ _ _ h => h) (Or.inl ⟨by rfl, fun w' h => exec_lookup rfl rfl rfl h.lk⟩) hS0.out ?_
          try simp only [Act.put, List.setIfInBounds_toArray, List.set_cons_zero, List.set_cons_succ]
          refine takeT (i := 3) (v := .int .i64 (c + 1)) rfl (by kernel_rfl) (by kernel_rfl) (by kernel_rfl) (fun _ _ _ h => h) (Or.inl ⟨by rfl, ?_⟩) ?_
          · rintro w' _; go_simp; try rfl
          try simp only [Act.put, List.setIfInBounds_toArray, List.set_cons_zero, List.set_cons_succ]
          refine readyB1 (i := 4) (by kernel_rfl) rfl (fun KK hKK => ?_)
          refine step_exec (by rfl) _ (exec_entry rfl rfl rfl HE1.out) ?_
          refine hKK.out _ _ (.inr fun _ => hS1.out) ?_
          clear hKK KK
          try simp only [Act.put, List.setIfInBounds_toArray, List.set_cons_zero, List.set_cons_succ]
          refine takeT (i := 5) (v := ?_) rfl (by kernel_rfl) (by kernel_rfl) (by kernel_rfl) (fun _ _ _ h => h) (Or.inl ⟨by rfl, ?_⟩) ?_
          rotate_left
          · rintro w' _; go_simp; rfl
          try simp only [Act.put, List.setIfInBounds_toArray, List.set_cons_zero, List.set_cons_succ]
          refine readyB1 (i := 6) (by kernel_rfl) rfl (fun KK hKK => ?_)
          refine step_skip (by rfl) (exec_entryStore rfl rfl rfl rfl HE2.out) ?_
          refine hKK.out _ _ (.inl rfl) ?_
          clear hKK KK
          try simp only [Act.put, List.setIfInBounds_toArray, List.set_cons_zero, List.set_cons_succ]
          refine doneB (by kernel_rfl) ?_ _
          go_wp2
          go_roundg (k - (j + 1))
          case measure => omega
          case rel => exact ⟨j + 1, q + 1, _, _, by omega, rfl, by go_num, by omega, HM6, HB6, HC6⟩
        · have hltj : ¬ (j : Int) < (k : Int) := by omega
          have HCZ : Hid (Cn f (cnt (L.take (i + 1)))) := fun p => by
            have := HCr.out p
            simp only at this
            have e : x.ps.take j = x.ps := List.take_of_length_le (by rw [HK.out]; omega)
            rw [e, ← HTK.out p] at this
            exact this
          go_wp2
          go_roundg (n - (i + 1))
          case measure => omega
          case rel => exact ⟨i + 1, q, s, f, by omega, rfl, by go_num, by omega, HMr, HBr, HCZ⟩
    · have hlti : ¬ (i : Int) < (n : Int) := by omega
      have HCZ : Hid (Cn f (cnt L)) := hid (by
        have := HCr.out
        rw [List.take_of_length_le (by rw [HN.out]; omega)] at this
        exact this)
      go_wp2
      go_ret
      exact ⟨by rw [HG.out]; exact HBr.out, G, q, f, s, rfl, by rw [HG.out]; exact Nat.le_refl _, by omega, HMr.out, HCZ.out⟩
end Go.Proofs.YtjgjeedablgmeaaDoor
