/- 'slices.BinarySearchFunc' of places: the walk. -/
import Derived.Test.YtdfihfmmfmoabaaDoorPkO
namespace Go.Proofs.YtdfihfmmfmoabaaDoor
open Go.RowKit Go.Shelf
variable [Inhabited Pn]
set_option linter.unusedVariables false
set_option linter.unusedSectionVars false
set_option linter.unusedSimpArgs false
/-- What the search reads. -/
structure QB (G : Nat) (Y : List Value) (b o : Nat) (R : List Value) (W : World) : Prop where
  y : W.rangeAt G 0 Y
  r : W.rangeAt b o R
theorem enter37 (v1 v2 : Value) (w : World) : (callFunc 37 [v1, v2].toArray).run Tryd.prog w = .ok (.enter 37 [v1, v2].toArray) w := by kernel_rfl
/-- What it gives. -/
def PostBs (l : List Pl) (y : List Int) (w : World) (e : Ending) (w' : World) : Prop := Below w.heap.size w w' ∧ ∃ i : Nat, i ≤ l.length ∧ Cutat l y i i ∧ e = .returned (.tuple #[.int .i64 i, .bool (decide (i < l.length ∧ cmpI (l.getD i p0).id y = 0))])
set_option maxRecDepth 20000 in
set_option maxHeartbeats 4000000 in
theorem search_any (a : Option Addr) (cap : Nat) (l : List Pl) (y : List Int) (w : World) (hP : Pp w a cap l) (hq : WfQ l) (hs : SrtP l) (hy : y.length = 20) (hl : l.length ≤ 1000) :
    Calls Tryd.prog 36 #[.slice a l.length cap, .agg (row .u8 y).toArray, .func (.func 37) #[] #[]] w (PostBs l y w) := by
  obtain ⟨n, HN⟩ : ∃ n, Hid (l.length = n) := ⟨_, rfl⟩
  obtain ⟨G, HG⟩ : ∃ G, Hid (w.heap.size = G) := ⟨_, rfl⟩
  obtain ⟨Y, HY⟩ : ∃ S : List Value, Hid (row .u8 y = S) := ⟨_, rfl⟩
  have hn : n ≤ 1000 := by rw [← HN.out]; exact hl
  obtain ⟨w1, HW1⟩ : ∃ w1, Hid (w.alloc (.cells Y.toArray 24) = w1) := ⟨_, rfl⟩
  have hb1 : Below w.heap.size w w1 := by rw [← HW1.out]; exact (Below.refl _ w).alloc (Nat.le_refl _) _
  have HB1 : Hid (Below G w w1) := hid (by rw [← HG.out]; exact hb1)
  have HS1 : Hid (w1.heap[G]? = some (.cells Y.toArray 24 (0, 0))) := hid (by rw [← HW1.out, ← HG.out]; exact heap_alloc_new w _)
  obtain ⟨H, HH⟩ : ∃ H, Hid (w1.heap.size = H) := ⟨_, rfl⟩
  have hGH : G < H := by rw [← HH.out]; exact lt_of_some HS1.out
  have HPP : Hid (∀ W, Below H w1 W → Pp W a cap l) := fun W hW => (hP.below hb1).below (by rw [HH.out]; exact hW)
  have HPL : Hid (0 < n → ∃ b off, a = some ⟨b, off, none⟩ ∧ b < H) := fun h0 => by
    obtain ⟨b, off, e1, e2, _⟩ := (hP.below hb1).at_ (by rw [HN.out]; exact h0)
    exact ⟨b, off, e1, by rw [← HH.out]; exact e2⟩
  have HBW : Hid (∀ W, Below H w1 W → Below G w W) := fun W hW => HB1.out.trans (hW.mono (Nat.le_of_lt hGH))
  have HYY : Hid (∀ W, Below H w1 W → W.rangeAt G 0 Y) := fun W hW => range_row ((hW.block G hGH).trans HS1.out)
  have HQ : Hid (WfQ l) := hq
  have HSR : Hid (SrtP l) := hs
  have hcap : n ≤ cap := by rw [← HN.out]; exact hP.capl
  have hiY : (Tryd.prog.info? 24).map (·.size) = some Y.length := by rw [← HY.out, row_len, hy]; exact Tryd.size24'
  have HY20 : Hid (y.length = 20) := hy
  rw [HN.out, HY.out]
  clear hP hb1 hq hs hy
  go_enter Tryd.func36, Tryd.ntmps36
  go_wp2_with fail
  rw [HW1.out]
  try rw [HG.out]
  go_loopg [9, 10] n (fun g iv jv wr => ∃ i j : Nat, i ≤ j ∧ j ≤ n ∧ g = j - i ∧ iv = .int .i64 i ∧ jv = .int .i64 j ∧ Hid (Below H w1 wr) ∧ Hid (Cutat l y i j))
  case atStart => exact ⟨0, n, Nat.zero_le _, Nat.le_refl _, rfl, rfl, rfl, hid (by rw [← HH.out]; exact Below.refl _ _), hid ⟨fun k hk => absurd hk (Nat.not_lt_zero _), fun k h1 h2 => by rw [HN.out] at h2; omega⟩⟩
  case round =>
    obtain ⟨i, j, hij, hjn, hg, rfl, rfl, HBr, HCT⟩ := hrel
    by_cases hlt : i < j
    · have hlti : (i : Int) < (j : Int) := by omega
      obtain ⟨b, off, hae, hbH⟩ := HPL.out (by omega)
      subst hae
      obtain ⟨h, HHH⟩ : ∃ h, Hid ((i + j) / 2 = h) := ⟨_, rfl⟩
      have hmid : ((i : Int) + (j : Int)) / 2 = (h : Int) := by rw [← HHH.out]; omega
      have hh1 : i ≤ h ∧ h < j := by rw [← HHH.out]; omega
      have hhn : h < n := by omega
      have hhni : (h : Int) < (n : Int) := by omega
      obtain ⟨x, HX⟩ : ∃ x, Hid (l.getD h p0 = x) := ⟨_, rfl⟩
      have hxm : x ∈ l := by
        rw [← HX.out, List.getD_eq_getElem?_getD, List.getElem?_eq_getElem (by rw [HN.out]; exact hhn)]
        exact List.getElem_mem _
      have HX20 : Hid (x.id.length = 20) := HQ.out x hxm
      clear hxm
      obtain ⟨R, HR⟩ : ∃ R : List Value, Hid (plV x = R) := ⟨_, rfl⟩
      have HRR : Hid (∀ W, Below H w1 W → W.rangeAt b (off + h * 22) R) := fun W hW => by
        obtain ⟨b', off', e1, e2, e3⟩ := (HPP.out W hW).at_ (by rw [HN.out]; omega)
        cases e1
        rw [← HR.out, ← HX.out]
        exact e3 h (by rw [HN.out]; exact hhn)
      have hi32 : (Tryd.prog.info? 32).map (·.size) = some R.length := by rw [← HR.out, plV_len x HX20.out]; exact Tryd.size32
      obtain ⟨c, HCV⟩ : ∃ c, Hid (cmpI x.id y = c) := ⟨_, rfl⟩
      have CC : Hid (∀ W, Calls Tryd.prog 37 [.agg R.toArray, .agg Y.toArray].toArray W fun e w' => e = .returned (.int .i64 c) ∧ Grew W w') := fun W => by
        rw [← HR.out, ← HY.out, ← HCV.out]; exact cmp37_any x y HX20.out HY20.out W
      obtain ⟨bb, HBB⟩ : ∃ bb : Bool, Hid (decide (c < 0) = bb) := ⟨_, rfl⟩
      have hcmp : decide (c < 0) = bb := HBB.out
      have HBd : Hid (Below H w1 wr.drew) := hid (below_drewH HBr.out 1)
      have HHu : Hid (H ≤ wr.drew.heap.size) := hid (by have := HBd.out.size; rw [HH.out] at this; exact this)
      go_wp2_with fail
      refine wp_region_held_drew (S := QB G Y b (off + h * 22) R) (by kernel_rfl) (by exact ⟨HYY.out _ HBd.out, HRR.out _ HBd.out⟩) (fun hHeld => ?_)
      generalize wr.drew = u0 at hHeld HBd HHu ⊢
      refine takeL (i := 0) (v := ?_) rfl (by kernel_rfl) (by kernel_rfl) (by kernel_rfl) (fun _ _ _ h => h) (Or.inl ⟨by rfl, ?_⟩) hHeld ?_
      rotate_left
      · rintro w' ⟨y1, r1⟩; go_simp; rfl
      try simp only [Act.put, List.setIfInBounds_toArray, List.set_cons_zero, List.set_cons_succ]
      refine takeL (i := 1) (v := ?_) rfl (by kernel_rfl) (by kernel_rfl) (by kernel_rfl) (fun _ _ _ h => h) (Or.inl ⟨by rfl, ?_⟩) hHeld ?_
      rotate_left
      · rintro w' ⟨y1, r1⟩; go_simp; rfl
      try simp only [Act.put, List.setIfInBounds_toArray, List.set_cons_zero, List.set_cons_succ]
      refine takeL (i := 2) (v := ?_) rfl (by kernel_rfl) (by kernel_rfl) (by kernel_rfl) (fun _ _ _ h => h) (Or.inl ⟨by rfl, ?_⟩) hHeld ?_
      rotate_left
      · rintro w' ⟨y1, r1⟩; go_simp; rfl
      try simp only [Act.put, List.setIfInBounds_toArray, List.set_cons_zero, List.set_cons_succ]
      refine takeL (i := 3) (v := ?_) rfl (by kernel_rfl) (by kernel_rfl) (by kernel_rfl) (fun _ _ _ h => h) (Or.inl ⟨by rfl, ?_⟩) hHeld ?_
      rotate_left
      · rintro w' ⟨y1, r1⟩; go_simp; rfl
      try simp only [Act.put, List.setIfInBounds_toArray, List.set_cons_zero, List.set_cons_succ]
      refine takeL (i := 4) (v := .agg R.toArray) rfl (by kernel_rfl) (by kernel_rfl) (by kernel_rfl) (fun _ _ _ h => h) (yieldsIf_load_mid (by kernel_rfl) 32 _ rfl b (off + h * 22) (by rfl) R _ (fun w' h => h.r) Tryd.underlying32 rfl hi32) hHeld ?_
      try simp only [Act.put, List.setIfInBounds_toArray, List.set_cons_zero, List.set_cons_succ]
      refine takeL (i := 5) (v := .agg Y.toArray) rfl (by kernel_rfl) (by kernel_rfl) (by kernel_rfl) (fun _ _ _ h => h) (yieldsIf_load_mid (by kernel_rfl) 24 _ rfl G (0) (by rfl) Y _ (fun w' h => h.y) Tryd.underlying24 rfl hiY) hHeld ?_
      try simp only [Act.put, List.setIfInBounds_toArray, List.set_cons_zero, List.set_cons_succ]
      refine wpAnyH_ready (rs := [6]) (by kernel_rfl) (by simp) ?_
      refine consL rfl (fun KK hKK => ?_) AllReadyH.nil
      refine step_callt (by rfl) (.tmp 24) 37 [.tmp 28, .tmp 29] _ [.agg R.toArray, .agg Y.toArray] _ (by rfl) (by rfl) (by rfl) (enter37 _ _) (CC.out u0) ?_
      rintro e u1 ⟨rfl, hg1⟩
      refine ⟨_, rfl, ?_⟩
      have hb1' := hg1.below
      have HB1' : Hid (Below H w1 u1) := hid (HBd.out.trans (hb1'.mono HHu.out))
      refine hKK.out _ _ ⟨HYY.out _ HB1'.out, HRR.out _ HB1'.out⟩ (fun hHeld2 => ?_)
      clear hKK KK hg1 hb1'
      try simp only [Act.put, List.setIfInBounds_toArray, List.set_cons_zero, List.set_cons_succ]
      refine takeL (i := 7) (v := .bool bb) rfl (by kernel_rfl) (by kernel_rfl) (by kernel_rfl) (fun _ _ _ h => h) (Or.inl ⟨by rfl, ?_⟩) hHeld2 ?_
      · rintro w' ⟨y1, r1⟩; go_simp; try rfl
      try simp only [Act.put, List.setIfInBounds_toArray, List.set_cons_zero, List.set_cons_succ]
      refine wpAnyH_done (by kernel_rfl) ?_ _
      clear hHeld hHeld2 hcmp
      cases bb with
      | true =>
        have HC2 : Hid (Cutat l y (h + 1) j) := hid (cut_up HCT.out HSR.out (by rw [HN.out]; exact hhn) (by rw [HX.out, HCV.out]; exact of_decide_eq_true HBB.out))
        go_wp2
        go_roundg (j - (h + 1))
        case measure => omega
        case rel => exact ⟨h + 1, j, by omega, hjn, rfl, by go_num, rfl, HB1', HC2⟩
      | false =>
        have HC2 : Hid (Cutat l y i h) := hid (cut_down HCT.out HSR.out (by rw [HN.out]; exact hhn) (by rw [HX.out, HCV.out]; exact of_decide_eq_false HBB.out))
        go_wp2
        go_roundg (h - i)
        case measure => omega
        case rel => exact ⟨i, h, by omega, by omega, rfl, rfl, rfl, HB1', HC2⟩
    · have hlti : ¬ (i : Int) < (j : Int) := by omega
      have hji : j = i := by omega
      subst hji
      by_cases hin : j < n
      · have hini : (j : Int) < (n : Int) := by omega
        obtain ⟨b, off, hae, hbH⟩ := HPL.out (by omega)
        subst hae
        obtain ⟨x, HX⟩ : ∃ x, Hid (l.getD j p0 = x) := ⟨_, rfl⟩
        have hxm : x ∈ l := by
          rw [← HX.out, List.getD_eq_getElem?_getD, List.getElem?_eq_getElem (by rw [HN.out]; exact hin)]
          exact List.getElem_mem _
        have HX20 : Hid (x.id.length = 20) := HQ.out x hxm
        clear hxm
        obtain ⟨R, HR⟩ : ∃ R : List Value, Hid (plV x = R) := ⟨_, rfl⟩
        have HRR : Hid (∀ W, Below H w1 W → W.rangeAt b (off + j * 22) R) := fun W hW => by
          obtain ⟨b', off', e1, e2, e3⟩ := (HPP.out W hW).at_ (by rw [HN.out]; omega)
          cases e1
          rw [← HR.out, ← HX.out]
          exact e3 j (by rw [HN.out]; exact hin)
        have hi32 : (Tryd.prog.info? 32).map (·.size) = some R.length := by rw [← HR.out, plV_len x HX20.out]; exact Tryd.size32
        obtain ⟨c, HCV⟩ : ∃ c, Hid (cmpI x.id y = c) := ⟨_, rfl⟩
        have CC : Hid (∀ W, Calls Tryd.prog 37 [.agg R.toArray, .agg Y.toArray].toArray W fun e w' => e = .returned (.int .i64 c) ∧ Grew W w') := fun W => by
          rw [← HR.out, ← HY.out, ← HCV.out]; exact cmp37_any x y HX20.out HY20.out W
        obtain ⟨bb, HBB⟩ : ∃ bb : Bool, Hid ((c == 0) = bb) := ⟨_, rfl⟩
        have hcmp : (c == 0) = bb := HBB.out
        have HBd : Hid (Below H w1 wr.drew) := hid (below_drewH HBr.out 1)
        have HHu : Hid (H ≤ wr.drew.heap.size) := hid (by have := HBd.out.size; rw [HH.out] at this; exact this)
        go_wp2_with fail
        refine wp_region_held_drew (S := QB G Y b (off + j * 22) R) (by kernel_rfl) (by exact ⟨HYY.out _ HBd.out, HRR.out _ HBd.out⟩) (fun hHeld => ?_)
        generalize wr.drew = u0 at hHeld HBd HHu ⊢
        refine takeL (i := 0) (v := ?_) rfl (by kernel_rfl) (by kernel_rfl) (by kernel_rfl) (fun _ _ _ h => h) (Or.inl ⟨by rfl, ?_⟩) hHeld ?_
        rotate_left
        · rintro w' ⟨y1, r1⟩; go_simp; rfl
        try simp only [Act.put, List.setIfInBounds_toArray, List.set_cons_zero, List.set_cons_succ]
        refine takeL (i := 1) (v := ?_) rfl (by kernel_rfl) (by kernel_rfl) (by kernel_rfl) (fun _ _ _ h => h) (Or.inl ⟨by rfl, ?_⟩) hHeld ?_
        rotate_left
        · rintro w' ⟨y1, r1⟩; go_simp; rfl
        try simp only [Act.put, List.setIfInBounds_toArray, List.set_cons_zero, List.set_cons_succ]
        refine takeL (i := 2) (v := ?_) rfl (by kernel_rfl) (by kernel_rfl) (by kernel_rfl) (fun _ _ _ h => h) (Or.inl ⟨by rfl, ?_⟩) hHeld ?_
        rotate_left
        · rintro w' ⟨y1, r1⟩; go_simp; rfl
        try simp only [Act.put, List.setIfInBounds_toArray, List.set_cons_zero, List.set_cons_succ]
        refine takeL (i := 3) (v := ?_) rfl (by kernel_rfl) (by kernel_rfl) (by kernel_rfl) (fun _ _ _ h => h) (Or.inl ⟨by rfl, ?_⟩) hHeld ?_
        rotate_left
        · rintro w' ⟨y1, r1⟩; go_simp; rfl
        try simp only [Act.put, List.setIfInBounds_toArray, List.set_cons_zero, List.set_cons_succ]
        refine takeL (i := 4) (v := ?_) rfl (by kernel_rfl) (by kernel_rfl) (by kernel_rfl) (fun _ _ _ h => h) (Or.inl ⟨by rfl, ?_⟩) hHeld ?_
        rotate_left
        · rintro w' ⟨y1, r1⟩; go_simp; rfl
        try simp only [Act.put, List.setIfInBounds_toArray, List.set_cons_zero, List.set_cons_succ]
        refine takeL (i := 5) (v := ?_) rfl (by kernel_rfl) (by kernel_rfl) (by kernel_rfl) (fun _ _ _ h => h) (Or.inl ⟨by kernel_rfl, ?_⟩) hHeld ?_
        rotate_left
        · rintro w' ⟨y1, r1⟩; go_simp; rfl
        try simp only [Act.put, List.setIfInBounds_toArray, List.set_cons_zero, List.set_cons_succ]
        refine takeL (i := 6) (v := ?_) rfl (by kernel_rfl) (by kernel_rfl) (by kernel_rfl) (fun _ _ _ h => h) (Or.inl ⟨by kernel_rfl, ?_⟩) hHeld ?_
        rotate_left
        · rintro w' ⟨y1, r1⟩; go_simp; rfl
        try simp only [Act.put, List.setIfInBounds_toArray, List.set_cons_zero, List.set_cons_succ]
        refine takeL (i := 7) (v := ?_) rfl (by kernel_rfl) (by kernel_rfl) (by kernel_rfl) (fun _ _ _ h => h) (Or.inl ⟨by kernel_rfl, ?_⟩) hHeld ?_
        rotate_left
        · rintro w' ⟨y1, r1⟩; go_simp; rfl
        try simp only [Act.put, List.setIfInBounds_toArray, List.set_cons_zero, List.set_cons_succ]
        refine takeL (i := 8) (v := ?_) rfl (by kernel_rfl) (by kernel_rfl) (by kernel_rfl) (fun _ _ _ h => h) (Or.inl ⟨by kernel_rfl, ?_⟩) hHeld ?_
        rotate_left
        · rintro w' ⟨y1, r1⟩; go_simp; rfl
        try simp only [Act.put, List.setIfInBounds_toArray, List.set_cons_zero, List.set_cons_succ]
        refine takeL (i := 9) (v := .agg R.toArray) rfl (by kernel_rfl) (by kernel_rfl) (by kernel_rfl) (fun _ _ _ h => h) (yieldsIf_load_mid (by kernel_rfl) 32 _ rfl b (off + j * 22) (by rfl) R _ (fun w' h => h.r) Tryd.underlying32 rfl hi32) hHeld ?_
        try simp only [Act.put, List.setIfInBounds_toArray, List.set_cons_zero, List.set_cons_succ]
        refine takeL (i := 10) (v := .agg Y.toArray) rfl (by kernel_rfl) (by kernel_rfl) (by kernel_rfl) (fun _ _ _ h => h) (yieldsIf_load_mid (by kernel_rfl) 24 _ rfl G (0) (by rfl) Y _ (fun w' h => h.y) Tryd.underlying24 rfl hiY) hHeld ?_
        try simp only [Act.put, List.setIfInBounds_toArray, List.set_cons_zero, List.set_cons_succ]
        refine wpAnyH_ready (rs := [11]) (by kernel_rfl) (by simp) ?_
        refine consL rfl (fun KK hKK => ?_) AllReadyH.nil
        refine step_callt (by kernel_rfl) (.tmp 40) 37 [.tmp 44, .tmp 45] _ [.agg R.toArray, .agg Y.toArray] _ (by rfl) (by rfl) (by rfl) (enter37 _ _) (CC.out u0) ?_
        rintro e u1 ⟨rfl, hg1⟩
        refine ⟨_, rfl, ?_⟩
        have hb1' := hg1.below
        have HB1' : Hid (Below H w1 u1) := hid (HBd.out.trans (hb1'.mono HHu.out))
        refine hKK.out _ _ ⟨HYY.out _ HB1'.out, HRR.out _ HB1'.out⟩ (fun hHeld2 => ?_)
        clear hKK KK hg1 hb1'
        try simp only [Act.put, List.setIfInBounds_toArray, List.set_cons_zero, List.set_cons_succ]
        refine takeL (i := 12) (v := .bool bb) rfl (by kernel_rfl) (by kernel_rfl) (by kernel_rfl) (fun _ _ _ h => h) (Or.inl ⟨by kernel_rfl, ?_⟩) hHeld2 ?_
        · rintro w' ⟨y1, r1⟩; go_simp; try rfl
        try simp only [Act.put, List.setIfInBounds_toArray, List.set_cons_zero, List.set_cons_succ]
        refine takeL (i := 13) (v := .bool bb) rfl (by kernel_rfl) (by kernel_rfl) (by kernel_rfl) (fun _ _ _ h => h) (Or.inl ⟨by rfl, ?_⟩) hHeld2 ?_
        · rintro w' ⟨y1, r1⟩; go_simp; try rfl
        try simp only [Act.put, List.setIfInBounds_toArray, List.set_cons_zero, List.set_cons_succ]
        refine takeL (i := 14) (v := ?_) rfl (by kernel_rfl) (by kernel_rfl) (by kernel_rfl) (fun _ _ _ h => h) (Or.inl ⟨by rfl, ?_⟩) hHeld2 ?_
        rotate_left
        · rintro w' ⟨y1, r1⟩; go_simp; rfl
        try simp only [Act.put, List.setIfInBounds_toArray, List.set_cons_zero, List.set_cons_succ]
        refine takeL (i := 15) (v := ?_) rfl (by kernel_rfl) (by kernel_rfl) (by kernel_rfl) (fun _ _ _ h => h) (Or.inl ⟨by rfl, ?_⟩) hHeld2 ?_
        rotate_left
        · rintro w' ⟨y1, r1⟩; go_simp; rfl
        try simp only [Act.put, List.setIfInBounds_toArray, List.set_cons_zero, List.set_cons_succ]
        refine wpAnyH_done (by kernel_rfl) ?_ _
        clear hHeld hHeld2 hcmp
        go_wp2
        go_ret2
        refine ⟨by rw [HG.out]; exact HBW.out _ HB1'.out, j, by rw [HN.out]; exact hjn, HCT.out, ?_⟩
        congr 5
        rw [HN.out, HX.out, HCV.out, ← HBB.out]
        simp only [hin, true_and]
        show Value.bool (c == 0) = _
        congr 1
      · have hini : ¬ (j : Int) < (n : Int) := by omega
        go_wp2_with fail
        go_quiet (fail)
        go_wp2
        go_ret2
        refine ⟨by rw [HG.out]; exact below_drewH (HBW.out _ HBr.out) _, j, by rw [HN.out]; exact hjn, HCT.out, ?_⟩
        congr 5
        rw [HN.out]
        simp [hin]
end Go.Proofs.YtdfihfmmfmoabaaDoor
