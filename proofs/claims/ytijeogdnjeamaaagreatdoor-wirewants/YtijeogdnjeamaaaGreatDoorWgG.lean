/- Ids copied, compared. -/
import Derived.Test.YtijeogdnjeamaaaGreatDoorWfE
namespace Go.Proofs.YtijeogdnjeamaaaGreatDoor
open Go.RowKit
set_option linter.unusedVariables false
set_option linter.unusedSimpArgs false
set_option maxRecDepth 20000 in
set_option maxHeartbeats 1000000 in
theorem plain_any {w : World} (a : Option Addr) (cap : Nat) (l : List (List Int)) (hP : Pa w a cap l) (hw : ∀ x ∈ l, IdW x) (hn : l.length ≤ 1000) : Calls Tryz.prog 14 #[.slice a l.length cap] w fun e w' => ∃ v, e = .returned v ∧ Bi 67 w w' w.heap.size v l := by
  obtain ⟨n, HN⟩ : ∃ n, Hid (l.length = n) := ⟨_, rfl⟩
  obtain ⟨G, HG⟩ : ∃ G, Hid (w.heap.size = G) := ⟨_, rfl⟩
  have hnn : n ≤ 1000 := by rw [← HN.out]; exact hn
  have HPA : Hid (∀ W, Below G w W → Pa W a cap l) := fun W hW => hP.below (by rw [HG.out]; exact hW)
  have HPL : Hid (0 < n → ∃ b off, a = some ⟨b, off, none⟩) := fun h0 => by
    obtain ⟨b, off, e1, e2, _⟩ := hP.at_ (by rw [HN.out]; exact h0)
    exact ⟨b, off, e1⟩
  have HWF : Hid (∀ x ∈ l, IdW x) := hw
  have HE0 : Hid (Bi 67 w w G (.slice none 0 0) (l.take 0)) := hid (bx_nil 67 w G (by rw [HG.out]; exact Nat.le_refl _))
  rw [HN.out]
  clear hP hw
  go_enter Tryz.func14, Tryz.ntmps14
  go_wp2_with fail
  go_loopg [3, 4] n (fun g u iv wr => ∃ (i : Nat) (v : Value), v = u ∧ i ≤ n ∧ g = n - i ∧ iv = .int .i64 i ∧ Hid (Bi 67 w wr G v (l.take i)))
  case atStart => exact ⟨0, _, rfl, Nat.zero_le _, rfl, rfl, HE0⟩
  case round =>
    obtain ⟨i, v, hv, hi, hk, rfl, HBE⟩ := hrel
    subst hv
    by_cases hlt : i < n
    · have hlti : (i : Int) < (n : Int) := by omega
      obtain ⟨b, off, hae⟩ := HPL.out (by omega)
      subst hae
      obtain ⟨x, HX⟩ : ∃ x, Hid (l.getD i [] = x) := ⟨_, rfl⟩
      have hxm : x ∈ l := by rw [← HX.out]; exact getD_mem l i _ (by rw [HN.out]; exact hlt)
      have HX20 : Hid (x.length = 20) := (HWF.out x hxm).1
      obtain ⟨RI, HRI⟩ : ∃ R, Hid (row .u8 x = R) := ⟨_, rfl⟩
      have hiI : (Tryz.prog.info? 68).map (·.size) = some RI.length := by rw [← HRI.out, row_len, HX20.out]; exact size68
      have RR : Hid (wr.rangeAt b (off + i * 20) RI) := hid (by
        obtain ⟨b', off', e1, _, e3⟩ := (HPA.out wr HBE.out.below).at_ (by rw [HN.out]; omega)
        cases e1
        have := e3 i (by rw [HN.out]; exact hlt)
        rw [HX.out, HRI.out] at this
        exact this)
      obtain ⟨K7, HK7⟩ : ∃ K, Hid (wr.heap.size = K) := ⟨_, rfl⟩
      have HBLD : Hid ((Instr.buildSlice 43 1 #[(0, .agg RI.toArray)]).run Tryz.prog wr = .ok (.slice (some ⟨K7, 0, none⟩) 1 1) (wr.alloc (.cells RI.toArray 67))) := hid (by rw [← HK7.out, ← HRI.out]; exact run_b43 x HX20.out wr)
      have HV7 : Hid (Bi 67 w (wr.alloc (.cells RI.toArray 67)) G v (l.take i)) := hid (HBE.out.alloc _)
      have HP8 : Hid (Pa (wr.alloc (.cells RI.toArray 67)) (some ⟨K7, 0, none⟩) 1 [x]) := hid (by rw [← HK7.out, ← HRI.out]; exact pa_one wr x 67)
      have HSUM : Hid ((l.take i).length + [x].length ≤ 30000) := hid (by rw [List.length_take, HN.out]; simp only [List.length_cons, List.length_nil]; omega)
      have HONE1 : Hid (∀ z ∈ [x], (row .u8 z).length = 20) := fun z hz => by
        have : z = x := by simpa using hz
        rw [this, row_len]; exact HX20.out
      clear hxm
      go_wp2_with (first
        | refine wpList_load_mid rfl 68 _ rfl b (off + i * 20) rfl RI _ RR.out Tryz.underlying68 rfl hiI ?_
        | refine wpList_bS rfl 43 1 _ rfl (.agg RI.toArray) _ rfl HBLD.out ?_
        | (refine wpList_bx_sl (d := []) rfl _ _ 43 67 Tryz.underlying43 Tryz.info67 rfl (by decide) (by decide) (fun z => row_oneC z) rfl G v _ rfl HV7.out (some ⟨K7, 0, none⟩) 1 [x] rfl HP8.out HONE1.out HSUM.out ?_; intro v8 w8 hb8 hg8)
        | fail)
      have HB8 : Hid (Bi 67 w w8 G v8 (l.take (i + 1))) := hid (by rw [take_snocG [] l i (by rw [HN.out]; exact hlt), HX.out]; exact hb8)
      clear hb8 hg8
      go_roundg (n - (i + 1))
      case measure => omega
      case rel => exact ⟨i + 1, v8, rfl, by omega, rfl, by go_num, HB8⟩
    · have hlti : ¬ (i : Int) < (n : Int) := by omega
      have HBZ : Hid (Bi 67 w wr G v l) := hid (by
        have := HBE.out
        rw [List.take_of_length_le (by rw [HN.out]; omega)] at this
        exact this)
      go_wp2
      go_ret
      exact ⟨v, rfl, by rw [HG.out]; exact HBZ.out⟩
structure QS (b o c p : Nat) (X Y : List Value) (W : World) : Prop where
  r0 : W.rangeAt b o X
  r1 : W.rangeAt c p Y
set_option maxRecDepth 20000 in
set_option maxHeartbeats 1000000 in
theorem sameIds_any {w : World} (xa : Option Addr) (xc : Nat) (X : List (List Int)) (hX : Pa w xa xc X) (hxi : ∀ y ∈ X, IdW y) (ya : Option Addr) (yc : Nat) (Y : List (List Int)) (hY : Pa w ya yc Y) (hyi : ∀ y ∈ Y, IdW y) (hxl : X.length ≤ 30000) (hyl : Y.length ≤ 30000) :
    Calls Tryz.prog 42 #[.slice xa X.length xc, .slice ya Y.length yc] w fun e w' => BI (X = Y) e ∧ Below w.heap.size w w' := by
  obtain ⟨nx, HNX⟩ : ∃ n, Hid (X.length = n) := ⟨_, rfl⟩
  obtain ⟨ny, HNY⟩ : ∃ n, Hid (Y.length = n) := ⟨_, rfl⟩
  obtain ⟨G, HG⟩ : ∃ G, Hid (w.heap.size = G) := ⟨_, rfl⟩
  have hnxb : nx ≤ 30000 := by rw [← HNX.out]; exact hxl
  have hnyb : ny ≤ 30000 := by rw [← HNY.out]; exact hyl
  have HXA : Hid (∀ W, Below G w W → Pa W xa xc X) := fun W hW => hX.below (by rw [HG.out]; exact hW)
  have HYA : Hid (∀ W, Below G w W → Pa W ya yc Y) := fun W hW => hY.below (by rw [HG.out]; exact hW)
  have HXI : Hid (∀ y ∈ X, IdW y) := hxi
  have HYI : Hid (∀ y ∈ Y, IdW y) := hyi
  have HPX : Hid (0 < nx → ∃ b off, xa = some ⟨b, off, none⟩) := fun h0 => by
    obtain ⟨b, off, e1, _⟩ := hX.at_ (by rw [HNX.out]; exact h0)
    exact ⟨b, off, e1⟩
  have HPY : Hid (0 < ny → ∃ b off, ya = some ⟨b, off, none⟩) := fun h0 => by
    obtain ⟨b, off, e1, _⟩ := hY.at_ (by rw [HNY.out]; exact h0)
    exact ⟨b, off, e1⟩
  rw [HNX.out, HNY.out]
  clear hX hY hxi hyi hxl hyl
  by_cases hne : nx = ny
  · subst hne
    go_enter Tryz.func42, Tryz.ntmps42
    go_wp2_with fail
    go_loopg [5] nx (fun gg iv wr => ∃ i : Nat, i ≤ nx ∧ gg = nx - i ∧ iv = .int .i64 i ∧ Hid (Below G w wr) ∧ Hid (X.take i = Y.take i))
    case atStart => exact ⟨0, Nat.zero_le _, rfl, rfl, hid (Below.refl _ _), hid (by simp)⟩
    case round =>
      obtain ⟨i, hi, hk, rfl, HB, HA⟩ := hrel
      by_cases hlt : i < nx
      · have hlti : (i : Int) < (nx : Int) := by omega
        obtain ⟨b, off, hae⟩ := HPX.out (by omega)
        subst hae
        obtain ⟨c, ofc, hce⟩ := HPY.out (by omega)
        subst hce
        obtain ⟨x, HX⟩ : ∃ y, Hid (X.getD i [] = y) := ⟨_, rfl⟩
        obtain ⟨y, HY⟩ : ∃ y, Hid (Y.getD i [] = y) := ⟨_, rfl⟩
        have HXW : Hid (IdW x) := hid (HXI.out x (by rw [← HX.out]; exact getD_mem X i _ (by rw [HNX.out]; exact hlt)))
        have HYW : Hid (IdW y) := hid (HYI.out y (by rw [← HY.out]; exact getD_mem Y i _ (by rw [HNY.out]; exact hlt)))
        obtain ⟨RX, HRX⟩ : ∃ R : List Value, Hid (row .u8 x = R) := ⟨_, rfl⟩
        obtain ⟨RY, HRY⟩ : ∃ R : List Value, Hid (row .u8 y = R) := ⟨_, rfl⟩
        have hiX : (Tryz.prog.info? 68).map (·.size) = some RX.length := by rw [← HRX.out, row_len, HXW.out.1]; exact size68
        have hiY : (Tryz.prog.info? 67).map (·.size) = some RY.length := by rw [← HRY.out, row_len, HYW.out.1]; exact size67
        have HBd : Hid (Below G w wr.drew) := hid (below_drewH HB.out 1)
        have hSd : QS b (off + i * 20) c (ofc + i * 20) RX RY wr.drew := ⟨by
            obtain ⟨b', off', e1, _, e3⟩ := (HXA.out _ HBd.out).at_ (by rw [HNX.out]; omega)
            cases e1
            have := e3 i (by rw [HNX.out]; exact hlt)
            rw [HX.out, HRX.out] at this
            exact this, by
            obtain ⟨b', off', e1, _, e3⟩ := (HYA.out _ HBd.out).at_ (by rw [HNY.out]; omega)
            cases e1
            have := e3 i (by rw [HNY.out]; exact hlt)
            rw [HY.out, HRY.out] at this
            exact this⟩
        have HEQ : Hid (∀ W : World, (Op.equalIn 10000 68 (.agg RX.toArray) (.agg RY.toArray)).run Tryz.prog W = .ok (decide (x = y)) W) := fun W => by rw [← HRX.out, ← HRY.out]; exact eq68 x y HXW.out.1 HYW.out.1 W
        have HTX : Hid (X.take (i + 1) = X.take i ++ [x]) := hid (by rw [take_snocG [] X i (by rw [HNX.out]; exact hlt), HX.out])
        have HTY : Hid (Y.take (i + 1) = Y.take i ++ [y]) := hid (by rw [take_snocG [] Y i (by rw [HNY.out]; exact hlt), HY.out])
        go_wp2_with fail
        refine wp_region_held_drew (S := QS b (off + i * 20) c (ofc + i * 20) RX RY) (by kernel_rfl) hSd (fun hHeld => ?_)
        clear hSd
        generalize wr.drew = u0 at hHeld HBd ⊢
        refine takeL (i := 0) (v := ?_) rfl (by kernel_rfl) (by kernel_rfl) (by kernel_rfl) (fun _ _ _ h => h) (Or.inl ⟨by rfl, ?_⟩) hHeld ?_
        rotate_left
        · rintro w' ⟨r0, r1⟩; go_simp; rfl
        try simp only [Act.put, List.setIfInBounds_toArray, List.set_cons_zero, List.set_cons_succ]
        refine takeL (i := 1) (v := ?_) rfl (by kernel_rfl) (by kernel_rfl) (by kernel_rfl) (fun _ _ _ h => h) (Or.inl ⟨by rfl, ?_⟩) hHeld ?_
        rotate_left
        · rintro w' ⟨r0, r1⟩; go_simp; rfl
        try simp only [Act.put, List.setIfInBounds_toArray, List.set_cons_zero, List.set_cons_succ]
        refine takeL (i := 2) (v := ?_) rfl (by kernel_rfl) (by kernel_rfl) (by kernel_rfl) (fun _ _ _ h => h) (Or.inl ⟨by rfl, ?_⟩) hHeld ?_
        rotate_left
        · rintro w' ⟨r0, r1⟩; go_simp; rfl
        try simp only [Act.put, List.setIfInBounds_toArray, List.set_cons_zero, List.set_cons_succ]
        refine takeL (i := 3) (v := .agg RX.toArray) rfl (by kernel_rfl) (by kernel_rfl) (by kernel_rfl) (fun _ _ _ h => h) (yieldsIf_load_mid (by kernel_rfl) 68 _ rfl b (off + i * 20) (by rfl) RX _ (fun w' h => h.r0) Tryz.underlying68 rfl hiX) hHeld ?_
        try simp only [Act.put, List.setIfInBounds_toArray, List.set_cons_zero, List.set_cons_succ]
        refine takeL (i := 4) (v := ?_) rfl (by kernel_rfl) (by kernel_rfl) (by kernel_rfl) (fun _ _ _ h => h) (Or.inl ⟨by rfl, ?_⟩) hHeld ?_
        rotate_left
        · rintro w' ⟨r0, r1⟩; go_simp; rfl
        try simp only [Act.put, List.setIfInBounds_toArray, List.set_cons_zero, List.set_cons_succ]
        refine takeL (i := 5) (v := ?_) rfl (by kernel_rfl) (by kernel_rfl) (by kernel_rfl) (fun _ _ _ h => h) (Or.inl ⟨by rfl, ?_⟩) hHeld ?_
        rotate_left
        · rintro w' ⟨r0, r1⟩; go_simp; rfl
        try simp only [Act.put, List.setIfInBounds_toArray, List.set_cons_zero, List.set_cons_succ]
        refine takeL (i := 6) (v := ?_) rfl (by kernel_rfl) (by kernel_rfl) (by kernel_rfl) (fun _ _ _ h => h) (Or.inl ⟨by rfl, ?_⟩) hHeld ?_
        rotate_left
        · rintro w' ⟨r0, r1⟩; go_simp; rfl
        try simp only [Act.put, List.setIfInBounds_toArray, List.set_cons_zero, List.set_cons_succ]
        refine takeL (i := 7) (v := .agg RY.toArray) rfl (by kernel_rfl) (by kernel_rfl) (by kernel_rfl) (fun _ _ _ h => h) (yieldsIf_load_mid (by kernel_rfl) 67 _ rfl c (ofc + i * 20) (by rfl) RY _ (fun w' h => h.r1) Tryz.underlying67 rfl hiY) hHeld ?_
        try simp only [Act.put, List.setIfInBounds_toArray, List.set_cons_zero, List.set_cons_succ]
        by_cases hxy : x = y
        · have heq : ∀ W : World, (Op.equalIn 10000 68 (.agg RX.toArray) (.agg RY.toArray)).run Tryz.prog W = .ok true W := fun W => by rw [HEQ.out W, decide_eq_true hxy]
          have HA2 : Hid (X.take (i + 1) = Y.take (i + 1)) := hid (by rw [HTX.out, HTY.out, HA.out, hxy])
          refine takeL (i := 8) (v := .bool false) rfl (by kernel_rfl) (by kernel_rfl) (by kernel_rfl) (fun _ _ _ h => h) (Or.inl ⟨by rfl, ?_⟩) hHeld ?_
          · rintro w' _; go_simp; try rfl
          try simp only [Act.put, List.setIfInBounds_toArray, List.set_cons_zero, List.set_cons_succ]
          refine wpAnyH_done (by kernel_rfl) ?_ _
          clear hHeld heq
          go_wp2
          go_roundg (nx - (i + 1))
          case measure => omega
          case rel => exact ⟨i + 1, by omega, rfl, by go_num, HBd, HA2⟩
        · have heq : ∀ W : World, (Op.equalIn 10000 68 (.agg RX.toArray) (.agg RY.toArray)).run Tryz.prog W = .ok false W := fun W => by rw [HEQ.out W, decide_eq_false hxy]
          have HNE : Hid (¬ X = Y) := hid (fun e => hxy (by rw [← HX.out, ← HY.out, e]))
          refine takeL (i := 8) (v := .bool true) rfl (by kernel_rfl) (by kernel_rfl) (by kernel_rfl) (fun _ _ _ h => h) (Or.inl ⟨by rfl, ?_⟩) hHeld ?_
          · rintro w' _; go_simp; try rfl
          try simp only [Act.put, List.setIfInBounds_toArray, List.set_cons_zero, List.set_cons_succ]
          refine wpAnyH_done (by kernel_rfl) ?_ _
          clear hHeld heq
          go_wp2
          go_ret
          exact ⟨⟨false, ⟨fun h => (by cases h), fun h => absurd h HNE.out⟩, rfl⟩, by rw [HG.out]; exact HBd.out⟩
      · have hlti : ¬ (i : Int) < (nx : Int) := by omega
        have HEQ : Hid (X = Y) := hid (by
          have := HA.out
          rw [List.take_of_length_le (by rw [HNX.out]; omega), List.take_of_length_le (by rw [HNY.out]; omega)] at this
          exact this)
        go_wp2
        go_ret
        exact ⟨⟨true, ⟨fun _ => HEQ.out, fun _ => rfl⟩, rfl⟩, by rw [HG.out]; exact HB.out⟩
  · have hnei : ¬ (nx : Int) = (ny : Int) := by omega
    have hneb : ((nx : Int) == (ny : Int)) = false := by rw [beq_eq_false_iff_ne]; exact hnei
    have HNE : Hid (¬ X = Y) := hid (fun e => hne (by rw [← HNX.out, ← HNY.out, e]))
    go_enter Tryz.func42, Tryz.ntmps42
    go_wp2
    go_ret
    exact ⟨⟨false, ⟨fun h => (by cases h), fun h => absurd h HNE.out⟩, rfl⟩, by exact Below.refl _ _⟩
end Go.Proofs.YtijeogdnjeamaaaGreatDoor
