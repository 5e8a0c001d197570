/- Two elements change places: a queue's 'Swap', 'slices.Reverse' of ids; 'backwards'. -/
import Derived.Test.YtjgjeedablgmeaaDoorGrG
namespace Go.Proofs.YtjgjeedablgmeaaDoor
open Go.RowKit
set_option linter.unusedVariables false
set_option linter.unusedSimpArgs false
structure QW (g oi oj : Nat) (Ri Rj : List Value) (W : World) : Prop where
  ri : W.rangeAt g oi Ri
  rj : W.rangeAt g oj Rj
set_option maxRecDepth 20000 in
set_option maxHeartbeats 4000000 in
theorem swap_any (w0 wr : World) (B g n cap i j : Nat) (l : List Nd) (h : Bx ndV 22 53 w0 wr B (.slice (some ⟨g, 0, none⟩) n cap) l) (hn : l.length = n) (hn2 : n ≤ 3000) (hi : i < n) (hj : j < n) (hw : ∀ x ∈ l, x.id.length = 20) :
    Calls Tryd.prog 112 #[.slice (some ⟨g, 0, none⟩) n cap, .int .i64 i, .int .i64 j] wr fun e w' => e = .returned (.tuple #[]) ∧ Bx ndV 22 53 w0 w' B (.slice (some ⟨g, 0, none⟩) n cap) (swp l i j nd0) ∧ wr.grownBy w' (some g) := by
  have HN : Hid (l.length = n) := hn
  have HWL : Hid (∀ x ∈ l, (ndV x).length = 22) := fun x hx => ndV_len x (hw x hx)
  have HBr : Hid (Bx ndV 22 53 w0 wr B (.slice (some ⟨g, 0, none⟩) n cap) l) := h
  have HBg : Hid (B ≤ g) := hid (by have := h.own; rw [HN.out] at this; exact (own_lt this g rfl).1)
  obtain ⟨wS, HWS⟩ : ∃ v, Hid (wr = v) := ⟨_, rfl⟩
  have HGr : Hid (wS.grownBy wr (some g)) := hid (by rw [← HWS.out]; exact ⟨rfl, rfl, rfl, Nat.le_refl _, fun _ _ _ => rfl⟩)
  obtain ⟨x, HX⟩ : ∃ x, Hid (l.getD i nd0 = x) := ⟨_, rfl⟩
  obtain ⟨y, HY⟩ : ∃ x, Hid (l.getD j nd0 = x) := ⟨_, rfl⟩
  have hxm : x ∈ l := by rw [← HX.out]; exact getD_mem l i _ (by rw [HN.out]; exact hi)
  have hym : y ∈ l := by rw [← HY.out]; exact getD_mem l j _ (by rw [HN.out]; exact hj)
  obtain ⟨Ri, HRi⟩ : ∃ R : List Value, Hid (ndV x = R) := ⟨_, rfl⟩
  obtain ⟨Rj, HRj⟩ : ∃ R : List Value, Hid (ndV y = R) := ⟨_, rfl⟩
  have hiRi : (Tryd.prog.info? 53).map (·.size) = some Ri.length := by rw [← HRi.out, HWL.out x hxm]; exact Tryd.size53
  have hiRj : (Tryd.prog.info? 53).map (·.size) = some Rj.length := by rw [← HRj.out, HWL.out y hym]; exact Tryd.size53
  have ORi : Hid (Ri.toArray.all (·.oneCell') = true) := hid (by rw [← HRi.out]; exact all_oneCell_toArray (ndV_one x))
  have ORj : Hid (Rj.toArray.all (·.oneCell') = true) := hid (by rw [← HRj.out]; exact all_oneCell_toArray (ndV_one y))
  have HB0 : Hid (Bx ndV 22 53 w0 wr.drew B (.slice (some ⟨g, 0, none⟩) n cap) l) := hid (HBr.out.carry (below_drewH (Below.refl _ _) 1))
  have HG0 : Hid (wS.grownBy wr.drew (some g)) := hid (HGr.out.trans ⟨rfl, rfl, rfl, Nat.le_refl _, fun _ _ _ => rfl⟩)
  have hS0 : Hid (QW g (i * 22) (j * 22) Ri Rj wr.drew) := hid (by
    obtain ⟨a', cap', e1, e2, _⟩ := HB0.out.px (d := nd0) (fun z hz => HWL.out z hz)
    cases e1
    obtain ⟨b', off', e3, _, e4⟩ := e2.at_ (by omega)
    cases e3
    have h1 := e4 i (by rw [HN.out]; exact hi)
    have h2 := e4 j (by rw [HN.out]; exact hj)
    rw [HX.out, HRi.out, Nat.zero_add] at h1
    rw [HY.out, HRj.out, Nat.zero_add] at h2
    exact ⟨h1, h2⟩)
  have TH1 : Hid (wr.drew.there g (i * 22) Rj.toArray.size) := hid (by rw [List.size_toArray, ← HRj.out, HWL.out y hym]; exact HB0.out.there HN.out i (by rw [HN.out]; exact hi))
  obtain ⟨u1, HU1⟩ : ∃ u1, Hid (wr.drew.setCells g (i * 22) Rj.toArray.toList = u1) := ⟨_, rfl⟩
  have hset1 := HB0.out.set HN.out HBg.out i y (by rw [HN.out]; exact hi) HWL.out (HWL.out y hym)
  rw [HRj.out, show wr.drew.setCells g (i * 22) Rj = u1 from HU1.out] at hset1
  have HWL1 : Hid (∀ z ∈ l.set i y, (ndV z).length = 22) := fun z hz => by
    rcases List.mem_or_eq_of_mem_set hz with h | h
    · exact HWL.out z h
    · rw [h]; exact HWL.out y hym
  have HN1 : Hid ((l.set i y).length = n) := hid (by rw [List.length_set]; exact HN.out)
  have TH2 : Hid (u1.there g (j * 22) Ri.toArray.size) := hid (by rw [List.size_toArray, ← HRi.out, HWL.out x hxm]; exact hset1.1.there HN1.out j (by rw [HN1.out]; exact hj))
  obtain ⟨u2, HU2⟩ : ∃ u2, Hid (u1.setCells g (j * 22) Ri.toArray.toList = u2) := ⟨_, rfl⟩
  have hset2 := hset1.1.set HN1.out HBg.out j x (by rw [HN1.out]; exact hj) HWL1.out (HWL.out x hxm)
  rw [HRi.out, show u1.setCells g (j * 22) Ri = u2 from HU2.out] at hset2
  have HB2 : Hid (Bx ndV 22 53 w0 u2 B (.slice (some ⟨g, 0, none⟩) n cap) (swp l i j nd0)) := hid (by unfold swp; rw [HX.out, HY.out]; exact hset2.1)
  have HG2 : Hid (wS.grownBy u2 (some g)) := hid ((HG0.out.trans hset1.2).trans hset2.2)
  clear hset1 hset2 hxm hym
  have hii : (i : Int) < (n : Int) := by omega
  have hjj : (j : Int) < (n : Int) := by omega
  rw [HWS.out]
  rw [HWS.out] at HBr HGr HB0 HG0 hS0 TH1 HU1
  clear h HBr HGr HWS hn
  have hwr : wS = wS := rfl
  generalize wS = wr at *
  go_enter Tryd.func112, Tryd.ntmps112
  refine region_B (QW g (i * 22) (j * 22) Ri Rj) (fun q => q == 13 || q == 15) (by kernel_rfl) ?_
  generalize wr.drew = u0 at hS0 HB0 HG0 TH1 HU1 ⊢
  refine takeT (i := 0) (v := ?_) rfl (by kernel_rfl) (by kernel_rfl) (by kernel_rfl) (fun _ _ _ h => h) (Or.inl ⟨by rfl, ?_⟩) ?_
  rotate_left
  · rintro w' _; go_simp; rfl
  try simp only [Act.put, List.setIfInBounds_toArray, List.set_cons_zero, List.set_cons_succ]
  refine takeT (i := 1) (v := ?_) rfl (by kernel_rfl) (by kernel_rfl) (by kernel_rfl) (fun _ _ _ h => h) (Or.inl ⟨by rfl, ?_⟩) ?_
  rotate_left
  · rintro w' _; go_simp; rfl
  try simp only [Act.put, List.setIfInBounds_toArray, List.set_cons_zero, List.set_cons_succ]
  refine takeT (i := 2) (v := ?_) rfl (by kernel_rfl) (by kernel_rfl) (by kernel_rfl) (fun _ _ _ h => h) (Or.inl ⟨by rfl, ?_⟩) ?_
  rotate_left
  · rintro w' _; go_simp; rfl
  try simp only [Act.put, List.setIfInBounds_toArray, List.set_cons_zero, List.set_cons_succ]
  refine takeT (i := 3) (v := ?_) rfl (by kernel_rfl) (by kernel_rfl) (by kernel_rfl) (fun _ _ _ h => h) (Or.inl ⟨by rfl, ?_⟩) ?_
  rotate_left
  · rintro w' _; go_simp; rfl
  try simp only [Act.put, List.setIfInBounds_toArray, List.set_cons_zero, List.set_cons_succ]
  refine takeT (i := 4) (v := ?_) rfl (by kernel_rfl) (by kernel_rfl) (by kernel_rfl) (fun _ _ _ h => h) (Or.inl ⟨by rfl, ?_⟩) ?_
  rotate_left
  · rintro w' _; go_simp; rfl
  try simp only [Act.put, List.setIfInBounds_toArray, List.set_cons_zero, List.set_cons_succ]
  refine takeT (i := 5) (v := ?_) rfl (by kernel_rfl) (by kernel_rfl) (by kernel_rfl) (fun _ _ _ h => h) (Or.inl ⟨by rfl, ?_⟩) ?_
  rotate_left
  · rintro w' _; go_simp; rfl
  try simp only [Act.put, List.setIfInBounds_toArray, List.set_cons_zero, List.set_cons_succ]
  refine takeT (i := 6) (v := ?_) rfl (by kernel_rfl) (by kernel_rfl) (by kernel_rfl) (fun _ _ _ h => h) (Or.inl ⟨by rfl, ?_⟩) ?_
  rotate_left
  · rintro w' _; go_simp; rfl
  try simp only [Act.put, List.setIfInBounds_toArray, List.set_cons_zero, List.set_cons_succ]
  refine takeB (i := 7) (v := .agg Rj.toArray) rfl (by kernel_rfl) (by kernel_rfl) (by kernel_rfl) (by kernel_rfl) (fun _ _ _ h => h) (yieldsIf_load_mid (by kernel_rfl) 53 _ rfl g (j * 22) (by rfl) Rj _ (fun w' h => h.rj) Tryd.underlying53 rfl hiRj) hS0.out ?_
  try simp only [Act.put, List.setIfInBounds_toArray, List.set_cons_zero, List.set_cons_succ]
  refine takeT (i := 8) (v := ?_) rfl (by kernel_rfl) (by kernel_rfl) (by kernel_rfl) (fun _ _ _ h => h) (Or.inl ⟨by rfl, ?_⟩) ?_
  rotate_left
  · rintro w' _; go_simp; rfl
  try simp only [Act.put, List.setIfInBounds_toArray, List.set_cons_zero, List.set_cons_succ]
  refine takeT (i := 9) (v := ?_) rfl (by kernel_rfl) (by kernel_rfl) (by kernel_rfl) (fun _ _ _ h => h) (Or.inl ⟨by rfl, ?_⟩) ?_
  rotate_left
  · rintro w' _; go_simp; rfl
  try simp only [Act.put, List.setIfInBounds_toArray, List.set_cons_zero, List.set_cons_succ]
  refine takeT (i := 10) (v := ?_) rfl (by kernel_rfl) (by kernel_rfl) (by kernel_rfl) (fun _ _ _ h => h) (Or.inl ⟨by rfl, ?_⟩) ?_
  rotate_left
  · rintro w' _; go_simp; rfl
  try simp only [Act.put, List.setIfInBounds_toArray, List.set_cons_zero, List.set_cons_succ]
  refine takeB (i := 11) (v := .agg Ri.toArray) rfl (by kernel_rfl) (by kernel_rfl) (by kernel_rfl) (by kernel_rfl) (fun _ _ _ h => h) (yieldsIf_load_mid (by kernel_rfl) 53 _ rfl g (i * 22) (by rfl) Ri _ (fun w' h => h.ri) Tryd.underlying53 rfl hiRi) hS0.out ?_
  try simp only [Act.put, List.setIfInBounds_toArray, List.set_cons_zero, List.set_cons_succ]
  refine takeT (i := 12) (v := ?_) rfl (by kernel_rfl) (by kernel_rfl) (by kernel_rfl) (fun _ _ _ h => h) (Or.inl ⟨by rfl, ?_⟩) ?_
  rotate_left
  · rintro w' _; go_simp; rfl
  try simp only [Act.put, List.setIfInBounds_toArray, List.set_cons_zero, List.set_cons_succ]
  refine readyB1 (i := 13) (by kernel_rfl) rfl (fun KK hKK => ?_)
  refine step_store (by rfl) 53 _ _ (by rfl) g (i * 22) Rj.toArray rfl rfl TH1.out (by rw [List.size_toArray]; exact hiRj) ORj.out ?_
  refine hKK.out _ _ (.inl rfl) ?_
  clear hKK KK
  rw [HU1.out]
  try simp only [Act.put, List.setIfInBounds_toArray, List.set_cons_zero, List.set_cons_succ]
  refine takeT (i := 14) (v := ?_) rfl (by kernel_rfl) (by kernel_rfl) (by kernel_rfl) (fun _ _ _ h => h) (Or.inl ⟨by rfl, ?_⟩) ?_
  rotate_left
  · rintro w' _; go_simp; rfl
  try simp only [Act.put, List.setIfInBounds_toArray, List.set_cons_zero, List.set_cons_succ]
  refine readyB1 (i := 15) (by kernel_rfl) rfl (fun KK hKK => ?_)
  refine step_store (by rfl) 53 _ _ (by rfl) g (j * 22) Ri.toArray rfl rfl TH2.out (by rw [List.size_toArray]; exact hiRi) ORi.out ?_
  refine hKK.out _ _ (.inl rfl) ?_
  clear hKK KK
  rw [HU2.out]
  try simp only [Act.put, List.setIfInBounds_toArray, List.set_cons_zero, List.set_cons_succ]
  refine doneB (by kernel_rfl) ?_ _
  go_wp2
  go_end0
  exact ⟨rfl, HB2.out, HG2.out⟩
theorem reverse_nil (a : Option Addr) (cap : Nat) (w : World) : Calls Tryd.prog 61 #[.slice a 0 cap] w fun e w' => e = .returned (.tuple #[]) ∧ w' = w := by
  go_enter Tryd.func61, Tryd.ntmps61
  go_wp2_with fail
  go_loopg [2, 3] 0 (fun g u v wr => g = 0 ∧ u = .int .i64 0 ∧ v = .int .i64 (-1) ∧ wr = w)
  case atStart => exact ⟨rfl, rfl, rfl, rfl⟩
  case round =>
    obtain ⟨rfl, rfl, rfl, rfl⟩ := hrel
    go_wp2
    go_end0
    exact ⟨rfl, rfl⟩
set_option maxRecDepth 20000 in
set_option maxHeartbeats 4000000 in
theorem reverse_some (w0 w : World) (B g n cap : Nat) (l0 : List (List Int)) (h : Bi 42 w0 w B (.slice (some ⟨g, 0, none⟩) n cap) l0) (hn : l0.length = n) (hn2 : n ≤ 30000) (hn0 : 0 < n) (hw : ∀ x ∈ l0, IdW x) :
    Calls Tryd.prog 61 #[.slice (some ⟨g, 0, none⟩) n cap] w fun e w' => e = .returned (.tuple #[]) ∧ ∃ l', l'.Perm l0 ∧ Bi 42 w0 w' B (.slice (some ⟨g, 0, none⟩) n cap) l' ∧ w.grownBy w' (some g) := by
  have HN0 : Hid (l0.length = n) := hn
  have HW0 : Hid (∀ x ∈ l0, (row .u8 x).length = 20) := fun x hx => by rw [row_len]; exact (hw x hx).1
  have HBg : Hid (B ≤ g) := hid (by have := h.own; rw [HN0.out] at this; exact (own_lt this g rfl).1)
  have HB : Hid (Bi 42 w0 w B (.slice (some ⟨g, 0, none⟩) n cap) l0) := h
  clear h hn hw
  go_enter Tryd.func61, Tryd.ntmps61
  go_wp2_with fail
  go_loopg [2, 3] (n - 1) (fun gg u v wr => ∃ (i j : Nat) (l : List (List Int)), u = .int .i64 i ∧ v = .int .i64 j ∧ gg = j ∧ i + j < n ∧ Hid (l.Perm l0) ∧ Hid (Bi 42 w0 wr B (.slice (some ⟨g, 0, none⟩) n cap) l) ∧ Hid (w.grownBy wr (some g)))
  case atStart => exact ⟨0, n - 1, l0, rfl, by go_num, rfl, by omega, hid (List.Perm.refl _), HB, hid ⟨rfl, rfl, rfl, Nat.le_refl _, fun _ _ _ => rfl⟩⟩
  case round =>
    obtain ⟨i, j, l, rfl, rfl, hk, hij, HPm, HBr, HGr⟩ := hrel
    by_cases hlt : i < j
    · have hlti : (i : Int) < (j : Int) := by omega
      have hi : i < n := by omega
      have hj : j < n := by omega
      have HN : Hid (l.length = n) := hid (HPm.out.length_eq.trans HN0.out)
      have HWL : Hid (∀ x ∈ l, (row .u8 x).length = 20) := fun x hx => HW0.out x (HPm.out.mem_iff.1 hx)
      obtain ⟨wS, HWS⟩ : ∃ v, Hid (w = v) := ⟨_, rfl⟩
      rw [HWS.out] at HGr
      obtain ⟨x, HX⟩ : ∃ x, Hid (l.getD i [] = x) := ⟨_, rfl⟩
      obtain ⟨y, HY⟩ : ∃ x, Hid (l.getD j [] = x) := ⟨_, rfl⟩
      have hxm : x ∈ l := by rw [← HX.out]; exact getD_mem l i _ (by rw [HN.out]; exact hi)
      have hym : y ∈ l := by rw [← HY.out]; exact getD_mem l j _ (by rw [HN.out]; exact hj)
      obtain ⟨Ri, HRi⟩ : ∃ R : List Value, Hid ((row .u8) x = R) := ⟨_, rfl⟩
      obtain ⟨Rj, HRj⟩ : ∃ R : List Value, Hid ((row .u8) y = R) := ⟨_, rfl⟩
      have hiRi : (Tryd.prog.info? 42).map (·.size) = some Ri.length := by rw [← HRi.out, HWL.out x hxm]; exact Tryd.size42
      have hiRj : (Tryd.prog.info? 42).map (·.size) = some Rj.length := by rw [← HRj.out, HWL.out y hym]; exact Tryd.size42
      have ORi : Hid (Ri.toArray.all (·.oneCell') = true) := hid (by rw [← HRi.out]; exact all_oneCell_toArray (row_one .u8 x))
      have ORj : Hid (Rj.toArray.all (·.oneCell') = true) := hid (by rw [← HRj.out]; exact all_oneCell_toArray (row_one .u8 y))
      have HB0 : Hid (Bx (row .u8) 20 42 w0 wr.drew B (.slice (some ⟨g, 0, none⟩) n cap) l) := hid (HBr.out.carry (below_drewH (Below.refl _ _) 1))
      have HG0 : Hid (wS.grownBy wr.drew (some g)) := hid (HGr.out.trans ⟨rfl, rfl, rfl, Nat.le_refl _, fun _ _ _ => rfl⟩)
      have hS0 : Hid (QW g (i * 20) (j * 20) Ri Rj wr.drew) := hid (by
        obtain ⟨a', cap', e1, e2, _⟩ := HB0.out.px (d := []) (fun z hz => HWL.out z hz)
        cases e1
        obtain ⟨b', off', e3, _, e4⟩ := e2.at_ (by omega)
        cases e3
        have h1 := e4 i (by rw [HN.out]; exact hi)
        have h2 := e4 j (by rw [HN.out]; exact hj)
        rw [HX.out, HRi.out, Nat.zero_add] at h1
        rw [HY.out, HRj.out, Nat.zero_add] at h2
        exact ⟨h1, h2⟩)
      have TH1 : Hid (wr.drew.there g (i * 20) Rj.toArray.size) := hid (by rw [List.size_toArray, ← HRj.out, HWL.out y hym]; exact HB0.out.there HN.out i (by rw [HN.out]; exact hi))
      obtain ⟨u1, HU1⟩ : ∃ u1, Hid (wr.drew.setCells g (i * 20) Rj.toArray.toList = u1) := ⟨_, rfl⟩
      have hset1 := HB0.out.set HN.out HBg.out i y (by rw [HN.out]; exact hi) HWL.out (HWL.out y hym)
      rw [HRj.out, show wr.drew.setCells g (i * 20) Rj = u1 from HU1.out] at hset1
      have HWL1 : Hid (∀ z ∈ l.set i y, ((row .u8) z).length = 20) := fun z hz => by
        rcases List.mem_or_eq_of_mem_set hz with h | h
        · exact HWL.out z h
        · rw [h]; exact HWL.out y hym
      have HN1 : Hid ((l.set i y).length = n) := hid (by rw [List.length_set]; exact HN.out)
      have TH2 : Hid (u1.there g (j * 20) Ri.toArray.size) := hid (by rw [List.size_toArray, ← HRi.out, HWL.out x hxm]; exact hset1.1.there HN1.out j (by rw [HN1.out]; exact hj))
      obtain ⟨u2, HU2⟩ : ∃ u2, Hid (u1.setCells g (j * 20) Ri.toArray.toList = u2) := ⟨_, rfl⟩
      have hset2 := hset1.1.set HN1.out HBg.out j x (by rw [HN1.out]; exact hj) HWL1.out (HWL.out x hxm)
      rw [HRi.out, show u1.setCells g (j * 20) Ri = u2 from HU2.out] at hset2
      have HB2 : Hid (Bx (row .u8) 20 42 w0 u2 B (.slice (some ⟨g, 0, none⟩) n cap) (swp l i j [])) := hid (by unfold swp; rw [HX.out, HY.out]; exact hset2.1)
      have HG2 : Hid (wS.grownBy u2 (some g)) := hid ((HG0.out.trans hset1.2).trans hset2.2)
      clear hset1 hset2 hxm hym
      have hii : (i : Int) < (n : Int) := by omega
      have hjj : (j : Int) < (n : Int) := by omega
      have HP2 : Hid ((swp l i j []).Perm l0) := hid ((swp_perm l i j [] (by rw [HN.out]; exact hi) (by rw [HN.out]; exact hj)).trans HPm.out)
      obtain ⟨j1, HJ⟩ : ∃ j1, Hid (j = j1 + 1) := ⟨j - 1, hid (by omega)⟩
      have hj1 : i + 1 + j1 < n := by have := HJ.out; omega
      have hjm : j1 < j := by have := HJ.out; omega
      go_wp2_with fail
      refine region_B (QW g (i * 20) (j * 20) Ri Rj) (fun q => q == 13 || q == 15) (by kernel_rfl) ?_
      generalize wr.drew = u0 at hS0 HB0 HG0 TH1 HU1 ⊢
      refine takeT (i := 0) (v := ?_) rfl (by kernel_rfl) (by kernel_rfl) (by kernel_rfl) (fun _ _ _ h => h) (Or.inl ⟨by rfl, ?_⟩) ?_
      rotate_left
      · rintro w' _; go_simp; rfl
      try simp only [Act.put, List.setIfInBounds_toArray, List.set_cons_zero, List.set_cons_succ]
      refine takeT (i := 1) (v := ?_) rfl (by kernel_rfl) (by kernel_rfl) (by kernel_rfl) (fun _ _ _ h => h) (Or.inl ⟨by rfl, ?_⟩) ?_
      rotate_left
      · rintro w' _; go_simp; rfl
      try simp only [Act.put, List.setIfInBounds_toArray, List.set_cons_zero, List.set_cons_succ]
      refine takeT (i := 2) (v := ?_) rfl (by kernel_rfl) (by kernel_rfl) (by kernel_rfl) (fun _ _ _ h => h) (Or.inl ⟨by rfl, ?_⟩) ?_
      rotate_left
      · rintro w' _; go_simp; rfl
      try simp only [Act.put, List.setIfInBounds_toArray, List.set_cons_zero, List.set_cons_succ]
      refine takeT (i := 3) (v := ?_) rfl (by kernel_rfl) (by kernel_rfl) (by kernel_rfl) (fun _ _ _ h => h) (Or.inl ⟨by rfl, ?_⟩) ?_
      rotate_left
      · rintro w' _; go_simp; rfl
      try simp only [Act.put, List.setIfInBounds_toArray, List.set_cons_zero, List.set_cons_succ]
      refine takeT (i := 4) (v := ?_) rfl (by kernel_rfl) (by kernel_rfl) (by kernel_rfl) (fun _ _ _ h => h) (Or.inl ⟨by rfl, ?_⟩) ?_
      rotate_left
      · rintro w' _; go_simp; rfl
      try simp only [Act.put, List.setIfInBounds_toArray, List.set_cons_zero, List.set_cons_succ]
      refine takeT (i := 5) (v := ?_) rfl (by kernel_rfl) (by kernel_rfl) (by kernel_rfl) (fun _ _ _ h => h) (Or.inl ⟨by rfl, ?_⟩) ?_
      rotate_left
      · rintro w' _; go_simp; rfl
      try simp only [Act.put, List.setIfInBounds_toArray, List.set_cons_zero, List.set_cons_succ]
      refine takeT (i := 6) (v := ?_) rfl (by kernel_rfl) (by kernel_rfl) (by kernel_rfl) (fun _ _ _ h => h) (Or.inl ⟨by rfl, ?_⟩) ?_
      rotate_left
      · rintro w' _; go_simp; rfl
      try simp only [Act.put, List.setIfInBounds_toArray, List.set_cons_zero, List.set_cons_succ]
      refine takeB (i := 7) (v := .agg Rj.toArray) rfl (by kernel_rfl) (by kernel_rfl) (by kernel_rfl) (by kernel_rfl) (fun _ _ _ h => h) (yieldsIf_load_mid (by kernel_rfl) 42 _ rfl g (j * 20) (by rfl) Rj _ (fun w' h => h.rj) Tryd.underlying42 rfl hiRj) hS0.out ?_
      try simp only [Act.put, List.setIfInBounds_toArray, List.set_cons_zero, List.set_cons_succ]
      refine takeT (i := 8) (v := ?_) rfl (by kernel_rfl) (by kernel_rfl) (by kernel_rfl) (fun _ _ _ h => h) (Or.inl ⟨by rfl, ?_⟩) ?_
      rotate_left
      · rintro w' _; go_simp; rfl
      try simp only [Act.put, List.setIfInBounds_toArray, List.set_cons_zero, List.set_cons_succ]
      refine takeT (i := 9) (v := ?_) rfl (by kernel_rfl) (by kernel_rfl) (by kernel_rfl) (fun _ _ _ h => h) (Or.inl ⟨by rfl, ?_⟩) ?_
      rotate_left
      · rintro w' _; go_simp; rfl
      try simp only [Act.put, List.setIfInBounds_toArray, List.set_cons_zero, List.set_cons_succ]
      refine takeT (i := 10) (v := ?_) rfl (by kernel_rfl) (by kernel_rfl) (by kernel_rfl) (fun _ _ _ h => h) (Or.inl ⟨by rfl, ?_⟩) ?_
      rotate_left
      · rintro w' _; go_simp; rfl
      try simp only [Act.put, List.setIfInBounds_toArray, List.set_cons_zero, List.set_cons_succ]
      refine takeB (i := 11) (v := .agg Ri.toArray) rfl (by kernel_rfl) (by kernel_rfl) (by kernel_rfl) (by kernel_rfl) (fun _ _ _ h => h) (yieldsIf_load_mid (by kernel_rfl) 42 _ rfl g (i * 20) (by rfl) Ri _ (fun w' h => h.ri) Tryd.underlying42 rfl hiRi) hS0.out ?_
      try simp only [Act.put, List.setIfInBounds_toArray, List.set_cons_zero, List.set_cons_succ]
      refine takeT (i := 12) (v := ?_) rfl (by kernel_rfl) (by kernel_rfl) (by kernel_rfl) (fun _ _ _ h => h) (Or.inl ⟨by rfl, ?_⟩) ?_
      rotate_left
      · rintro w' _; go_simp; rfl
      try simp only [Act.put, List.setIfInBounds_toArray, List.set_cons_zero, List.set_cons_succ]
      refine readyB1 (i := 13) (by kernel_rfl) rfl (fun KK hKK => ?_)
      refine step_store (by rfl) 42 _ _ (by rfl) g (i * 20) Rj.toArray rfl rfl TH1.out (by rw [List.size_toArray]; exact hiRj) ORj.out ?_
      refine hKK.out _ _ (.inl rfl) ?_
      clear hKK KK
      rw [HU1.out]
      try simp only [Act.put, List.setIfInBounds_toArray, List.set_cons_zero, List.set_cons_succ]
      refine takeT (i := 14) (v := ?_) rfl (by kernel_rfl) (by kernel_rfl) (by kernel_rfl) (fun _ _ _ h => h) (Or.inl ⟨by rfl, ?_⟩) ?_
      rotate_left
      · rintro w' _; go_simp; rfl
      try simp only [Act.put, List.setIfInBounds_toArray, List.set_cons_zero, List.set_cons_succ]
      refine readyB1 (i := 15) (by kernel_rfl) rfl (fun KK hKK => ?_)
      refine step_store (by rfl) 42 _ _ (by rfl) g (j * 20) Ri.toArray rfl rfl TH2.out (by rw [List.size_toArray]; exact hiRi) ORi.out ?_
      refine hKK.out _ _ (.inl rfl) ?_
      clear hKK KK
      rw [HU2.out]
      try simp only [Act.put, List.setIfInBounds_toArray, List.set_cons_zero, List.set_cons_succ]
      refine doneB (by kernel_rfl) ?_ _
      go_wp2
      go_roundg j1
      case measure => omega
      case rel => exact ⟨i + 1, j1, _, by go_num, by rw [HJ.out]; go_num, rfl, hj1, HP2, HB2, hid (by rw [HWS.out]; exact HG2.out)⟩
    · have hlti : ¬ (i : Int) < (j : Int) := by omega
      go_wp2
      go_end0
      exact ⟨rfl, l, HPm.out, HBr.out, HGr.out⟩
theorem reverse_any (w0 w : World) (B : Nat) (v : Value) (l0 : List (List Int)) (h : Bi 42 w0 w B v l0) (hn2 : l0.length ≤ 30000) (hw : ∀ x ∈ l0, IdW x) :
    Calls Tryd.prog 61 #[v] w fun e w' => e = .returned (.tuple #[]) ∧ ∃ l', l'.Perm l0 ∧ Bi 42 w0 w' B v l' := by
  by_cases h0 : l0.length = 0
  · obtain ⟨a, cp, rfl⟩ := owns_shape h.own
    rw [h0]
    refine (reverse_nil a cp w).mono ?_
    rintro e w' ⟨rfl, rfl⟩
    exact ⟨rfl, l0, List.Perm.refl _, by rw [← h0]; exact h⟩
  · obtain ⟨_, ⟨hv, h1⟩ | ⟨g, cap, cur, rfl, _⟩⟩ := h.own
    · exact absurd h1 h0
    · refine (reverse_some w0 w B g l0.length cap l0 h rfl hn2 (by omega) hw).mono ?_
      rintro e w' ⟨rfl, l', h1, h2, h3⟩
      exact ⟨rfl, l', h1, h2⟩
set_option maxRecDepth 20000 in
theorem backwards_any (a : Option Addr) (cap : Nat) (l : List (List Int)) (w : World) (hq : ∀ x ∈ l, IdW x) (hl : l.length ≤ 30000) (hP : Pa w a cap l) (ha : True) :
    Calls Tryd.prog 52 #[.slice a l.length cap] w fun e w' => ∃ v l', e = .returned v ∧ l'.Perm l ∧ Bi 42 w w' w.heap.size v l' := by
  have HC : Hid (Calls Tryd.prog 37 #[.slice a l.length cap] w fun e w' => ∃ v, e = .returned v ∧ Bi 42 w w' w.heap.size v l) := clone_any a cap l w hq hl hP ha
  have HQ : Hid (∀ x ∈ l, IdW x) := hq
  obtain ⟨N, HN⟩ : ∃ N, Hid (l.length = N) := ⟨_, rfl⟩
  have HNL : Hid (l.length ≤ 30000) := hl
  rw [HN.out] at HC ⊢
  clear hP hq
  go_enter Tryd.func52, Tryd.ntmps52
  go_wp2_with fail
  refine HC.out.mono ?_
  rintro ev w1 ⟨v, rfl, hb⟩
  have HR : Hid (Calls Tryd.prog 61 #[v] w1 fun e w' => e = .returned (.tuple #[]) ∧ ∃ l', l'.Perm l ∧ Bi 42 w w' w.heap.size v l') := reverse_any w w1 w.heap.size v l hb HNL.out HQ.out
  clear hb
  go_wp2_with fail
  refine HR.out.mono ?_
  rintro ev w2 ⟨rfl, l', h1, h2⟩
  have H1 : Hid (l'.Perm l) := h1
  have H2 : Hid (Bi 42 w w2 w.heap.size v l') := h2
  clear h1 h2
  go_wp2
  go_ret
  exact ⟨v, l', rfl, H1.out, H2.out⟩
end Go.Proofs.YtjgjeedablgmeaaDoor
