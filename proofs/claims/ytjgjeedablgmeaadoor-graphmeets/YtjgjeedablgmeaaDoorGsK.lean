/- The document's 'known'; 'same'. -/
import Derived.Test.YtjgjeedablgmeaaDoorGrZ
namespace Go.Proofs.YtjgjeedablgmeaaDoor
open Go.RowKit
set_option linter.unusedVariables false
set_option linter.unusedSimpArgs false
set_option maxRecDepth 20000 in
set_option maxHeartbeats 1000000 in
theorem known_any {w : World} (a : Option Addr) (cap : Nat) (l : List Nd) (hP : Pn w a cap l) (hw : ∀ x ∈ l, x.id.length = 20) (hn : l.length ≤ 40) (fa : Option Addr) (fc : Nat) (fs : List (List Int)) (hF : Pa w fa fc fs) (hfi : ∀ y ∈ fs, IdW y) (hfl : fs.length ≤ 1000) :
    Calls Tryd.prog 30 #[.slice a l.length cap, .slice fa fs.length fc] w fun e w' => BI (∀ y ∈ fs, y ∈ ids l) e ∧ Below w.heap.size w w' := by
  obtain ⟨n, HN⟩ : ∃ n, Hid (l.length = n) := ⟨_, rfl⟩
  obtain ⟨nf, HNF⟩ : ∃ n, Hid (fs.length = n) := ⟨_, rfl⟩
  obtain ⟨G, HG⟩ : ∃ G, Hid (w.heap.size = G) := ⟨_, rfl⟩
  have hn40 : n ≤ 40 := by rw [← HN.out]; exact hn
  have hnf40 : nf ≤ 1000 := by rw [← HNF.out]; exact hfl
  have HPA : Hid (∀ W, Below G w W → Pn W a cap l) := fun W hW => hP.below (by rw [HG.out]; exact hW)
  have HFA : Hid (∀ W, Below G w W → Pa W fa fc fs) := fun W hW => hF.below (by rw [HG.out]; exact hW)
  have HW2 : Hid (∀ x ∈ l, x.id.length = 20) := hw
  have HL40 : Hid (l.length ≤ 40) := hn
  have HFI : Hid (∀ y ∈ fs, IdW y) := hfi
  have HPF : Hid (0 < nf → ∃ b off, fa = some ⟨b, off, none⟩) := fun h0 => by
    obtain ⟨b, off, e1, _⟩ := hF.at_ (by rw [HNF.out]; exact h0)
    exact ⟨b, off, e1⟩
  have C23 : Hid (∀ W, Below G w W → ∀ y Y, Hid (row .u8 y = Y) → IdW y → Calls Tryd.prog 23 #[.slice a n cap, .agg Y.toArray] W fun e w' => e = .returned (.int .i64 (fnd l y)) ∧ Below W.heap.size W w') := fun W hW y Y hY hy => by
    have := find_any a cap l (HPA.out W hW) HW2.out HL40.out y hy.1
    unfold idV at this
    rw [HN.out, hY.out] at this
    exact this
  have HGS : Hid (∀ W, Below G w W → G ≤ W.heap.size) := fun W hW => by have := hW.size; have := HG.out; omega
  rw [HN.out, HNF.out]
  clear hP hw hF hfi hfl
  go_enter Tryd.func30, Tryd.ntmps30
  go_wp2_with fail
  go_loopg [5] nf (fun gg iv wr => ∃ i : Nat, i ≤ nf ∧ gg = nf - i ∧ iv = .int .i64 i ∧ Hid (Below G w wr) ∧ Hid (∀ y ∈ fs.take i, y ∈ ids l))
  case atStart => exact ⟨0, Nat.zero_le _, rfl, rfl, hid (Below.refl _ _), hid (by simp)⟩
  case round =>
    obtain ⟨i, hi, hk, rfl, HB, HA⟩ := hrel
    by_cases hlt : i < nf
    · have hlti : (i : Int) < (nf : Int) := by omega
      obtain ⟨b, off, hae⟩ := HPF.out (by omega)
      subst hae
      obtain ⟨y, HY⟩ : ∃ y, Hid (fs.getD i [] = y) := ⟨_, rfl⟩
      have hym : y ∈ fs := by rw [← HY.out]; exact getD_mem fs i _ (by rw [HNF.out]; exact hlt)
      have HYM : Hid (y ∈ fs) := hym
      have HYW : Hid (IdW y) := HFI.out y hym
      obtain ⟨RF, HRF⟩ : ∃ R : List Value, Hid (row .u8 y = R) := ⟨_, rfl⟩
      have hi41 : (Tryd.prog.info? 41).map (·.size) = some RF.length := by rw [← HRF.out, row_len, HYW.out.1]; exact Tryd.size41
      have RR : Hid (wr.rangeAt b (off + i * 20) RF) := hid (by
        obtain ⟨b', off', e1, _, e3⟩ := (HFA.out wr HB.out).at_ (by rw [HNF.out]; omega)
        cases e1
        have := e3 i (by rw [HNF.out]; exact hlt)
        rw [HY.out, HRF.out] at this
        exact this)
      have CF := C23.out wr HB.out y RF HRF HYW.out
      by_cases hin : y ∈ ids l
      · obtain ⟨t, ht, hty, hft⟩ := fnd_mem l y hin
        rw [hft] at CF
        have CF2 : Hid (Calls Tryd.prog 23 #[.slice a n cap, .agg RF.toArray] wr fun e w' => e = .returned (.int .i64 t) ∧ Below wr.heap.size wr w') := CF
        have HIN : Hid (y ∈ ids l) := hin
        have ht0 : ¬ (t : Int) < 0 := by omega
        clear CF hym hty hft ht hin
        go_wp2_with (first
          | refine wpList_load_mid rfl 41 _ rfl b (off + i * 20) rfl RF _ RR.out Tryd.underlying41 rfl hi41 ?_
          | fail)
        refine CF2.out.mono ?_
        rintro ev w4 ⟨rfl, hb4⟩
        have HB4 : Hid (Below G w w4) := hid (HB.out.trans (hb4.mono (HGS.out wr HB.out)))
        have HA4 : Hid (∀ y ∈ fs.take (i + 1), y ∈ ids l) := hid (by
          rw [take_snocG [] fs i (by rw [HNF.out]; exact hlt), HY.out]
          intro z hz
          rcases List.mem_append.1 hz with h1 | h1
          · exact HA.out z h1
          · rw [show z = y by simpa using h1]; exact HIN.out)
        clear hb4
        go_wp2
        go_roundg (nf - (i + 1))
        case measure => omega
        case rel => exact ⟨i + 1, by omega, rfl, by go_num, HB4, HA4⟩
      · rw [fnd_neg hin] at CF
        have CF2 : Hid (Calls Tryd.prog 23 #[.slice a n cap, .agg RF.toArray] wr fun e w' => e = .returned (.int .i64 (-1)) ∧ Below wr.heap.size wr w') := CF
        have HIN : Hid (¬ y ∈ ids l) := hin
        clear CF hym hin
        go_wp2_with (first
          | refine wpList_load_mid rfl 41 _ rfl b (off + i * 20) rfl RF _ RR.out Tryd.underlying41 rfl hi41 ?_
          | fail)
        refine CF2.out.mono ?_
        rintro ev w4 ⟨rfl, hb4⟩
        have HB4 : Hid (Below G w w4) := hid (HB.out.trans (hb4.mono (HGS.out wr HB.out)))
        clear hb4
        go_wp2
        go_ret
        exact ⟨⟨false, ⟨fun h => (by cases h), fun h => absurd (h y HYM.out) HIN.out⟩, rfl⟩, by rw [HG.out]; exact HB4.out⟩
    · have hlti : ¬ (i : Int) < (nf : Int) := by omega
      have HAZ : Hid (∀ y ∈ fs, y ∈ ids l) := hid (by
        have := HA.out
        rw [List.take_of_length_le (by rw [HNF.out]; omega)] at this
        exact this)
      go_wp2
      go_ret
      exact ⟨⟨true, ⟨fun _ => HAZ.out, fun _ => rfl⟩, rfl⟩, by rw [HG.out]; exact HB.out⟩
structure QS (b o c p : Nat) (X Y : List Value) (W : World) : Prop where
  r0 : W.rangeAt b o X
  r1 : W.rangeAt c p Y
set_option maxRecDepth 20000 in
set_option maxHeartbeats 1000000 in
theorem same_any {w : World} (xa : Option Addr) (xc : Nat) (X : List (List Int)) (hX : Pa w xa xc X) (hxi : ∀ y ∈ X, IdW y) (ya : Option Addr) (yc : Nat) (Y : List (List Int)) (hY : Pa w ya yc Y) (hyi : ∀ y ∈ Y, IdW y) (hxl : X.length ≤ 30000) (hyl : Y.length ≤ 30000) :
    Calls Tryd.prog 15 #[.slice xa X.length xc, .slice ya Y.length yc] w fun e w' => BI (X = Y) e ∧ Below w.heap.size w w' := by
  obtain ⟨nx, HNX⟩ : ∃ n, Hid (X.length = n) := ⟨_, rfl⟩
  obtain ⟨ny, HNY⟩ : ∃ n, Hid (Y.length = n) := ⟨_, rfl⟩
  obtain ⟨G, HG⟩ : ∃ G, Hid (w.heap.size = G) := ⟨_, rfl⟩
  have hnxb : nx ≤ 30000 := by rw [← HNX.out]; exact hxl
  have hnyb : ny ≤ 30000 := by rw [← HNY.out]; exact hyl
  have HXA : Hid (∀ W, Below G w W → Pa W xa xc X) := fun W hW => hX.below (by rw [HG.out]; exact hW)
  have HYA : Hid (∀ W, Below G w W → Pa W ya yc Y) := fun W hW => hY.below (by rw [HG.out]; exact hW)
  have HXI : Hid (∀ y ∈ X, IdW y) := hxi
  have HYI : Hid (∀ y ∈ Y, IdW y) := hyi
  have HPX : Hid (0 < nx → ∃ b off, xa = some ⟨b, off, none⟩) := fun h0 => by
    obtain ⟨b, off, e1, _⟩ := hX.at_ (by rw [HNX.out]; exact h0)
    exact ⟨b, off, e1⟩
  have HPY : Hid (0 < ny → ∃ b off, ya = some ⟨b, off, none⟩) := fun h0 => by
    obtain ⟨b, off, e1, _⟩ := hY.at_ (by rw [HNY.out]; exact h0)
    exact ⟨b, off, e1⟩
  rw [HNX.out, HNY.out]
  clear hX hY hxi hyi hxl hyl
  by_cases hne : nx = ny
  · subst hne
    go_enter Tryd.func15, Tryd.ntmps15
    go_wp2_with fail
    go_loopg [5] nx (fun gg iv wr => ∃ i : Nat, i ≤ nx ∧ gg = nx - i ∧ iv = .int .i64 i ∧ Hid (Below G w wr) ∧ Hid (X.take i = Y.take i))
    case atStart => exact ⟨0, Nat.zero_le _, rfl, rfl, hid (Below.refl _ _), hid (by simp)⟩
    case round =>
      obtain ⟨i, hi, hk, rfl, HB, HA⟩ := hrel
      by_cases hlt : i < nx
      · have hlti : (i : Int) < (nx : Int) := by omega
        obtain ⟨b, off, hae⟩ := HPX.out (by omega)
        subst hae
        obtain ⟨c, ofc, hce⟩ := HPY.out (by omega)
        subst hce
        obtain ⟨x, HX⟩ : ∃ y, Hid (X.getD i [] = y) := ⟨_, rfl⟩
        obtain ⟨y, HY⟩ : ∃ y, Hid (Y.getD i [] = y) := ⟨_, rfl⟩
        have HXW : Hid (IdW x) := hid (HXI.out x (by rw [← HX.out]; exact getD_mem X i _ (by rw [HNX.out]; exact hlt)))
        have HYW : Hid (IdW y) := hid (HYI.out y (by rw [← HY.out]; exact getD_mem Y i _ (by rw [HNY.out]; exact hlt)))
        obtain ⟨RX, HRX⟩ : ∃ R : List Value, Hid (row .u8 x = R) := ⟨_, rfl⟩
        obtain ⟨RY, HRY⟩ : ∃ R : List Value, Hid (row .u8 y = R) := ⟨_, rfl⟩
        have hiX : (Tryd.prog.info? 42).map (·.size) = some RX.length := by rw [← HRX.out, row_len, HXW.out.1]; exact Tryd.size42
        have hiY : (Tryd.prog.info? 41).map (·.size) = some RY.length := by rw [← HRY.out, row_len, HYW.out.1]; exact Tryd.size41
        have HBd : Hid (Below G w wr.drew) := hid (below_drewH HB.out 1)
        have hSd : QS b (off + i * 20) c (ofc + i * 20) RX RY wr.drew := ⟨by
            obtain ⟨b', off', e1, _, e3⟩ := (HXA.out _ HBd.out).at_ (by rw [HNX.out]; omega)
            cases e1
            have := e3 i (by rw [HNX.out]; exact hlt)
            rw [HX.out, HRX.out] at this
            exact this, by
            obtain ⟨b', off', e1, _, e3⟩ := (HYA.out _ HBd.out).at_ (by rw [HNY.out]; omega)
            cases e1
            have := e3 i (by rw [HNY.out]; exact hlt)
            rw [HY.out, HRY.out] at this
            exact this⟩
        have HEQ : Hid (∀ W : World, (Op.equalIn 10000 42 (.agg RX.toArray) (.agg RY.toArray)).run Tryd.prog W = .ok (decide (x = y)) W) := fun W => by rw [← HRX.out, ← HRY.out]; exact eq42 x y HXW.out.1 HYW.out.1 W
        have HTX : Hid (X.take (i + 1) = X.take i ++ [x]) := hid (by rw [take_snocG [] X i (by rw [HNX.out]; exact hlt), HX.out])
        have HTY : Hid (Y.take (i + 1) = Y.take i ++ [y]) := hid (by rw [take_snocG [] Y i (by rw [HNY.out]; exact hlt), HY.out])
        go_wp2_with fail
        refine wp_region_held_drew (S := QS b (off + i * 20) c (ofc + i * 20) RX RY) (by kernel_rfl) hSd (fun hHeld => ?_)
        clear hSd
        generalize wr.drew = u0 at hHeld HBd ⊢
        refine takeL (i := 0) (v := ?_) rfl (by kernel_rfl) (by kernel_rfl) (by kernel_rfl) (fun _ _ _ h => h) (Or.inl ⟨by rfl, ?_⟩) hHeld ?_
        rotate_left
        · rintro w' ⟨r0, r1⟩; go_simp; rfl
        try simp only [Act.put, List.setIfInBounds_toArray, List.set_cons_zero, List.set_cons_succ]
        refine takeL (i := 1) (v := ?_) rfl (by kernel_rfl) (by kernel_rfl) (by kernel_rfl) (fun _ _ _ h => h) (Or.inl ⟨by rfl, ?_⟩) hHeld ?_
        rotate_left
        · rintro w' ⟨r0, r1⟩; go_simp; rfl
        try simp only [Act.put, List.setIfInBounds_toArray, List.set_cons_zero, List.set_cons_succ]
        refine takeL (i := 2) (v := ?_) rfl (by kernel_rfl) (by kernel_rfl) (by kernel_rfl) (fun _ _ _ h => h) (Or.inl ⟨by rfl, ?_⟩) hHeld ?_
        rotate_left
        · rintro w' ⟨r0, r1⟩; go_simp; rfl
        try simp only [Act.put, List.setIfInBounds_toArray, List.set_cons_zero, List.set_cons_succ]
        refine takeL (i := 3) (v := .agg RX.toArray) rfl (by kernel_rfl) (by kernel_rfl) (by kernel_rfl) (fun _ _ _ h => h) (yieldsIf_load_mid (by kernel_rfl) 42 _ rfl b (off + i * 20) (by rfl) RX _ (fun w' h => h.r0) Tryd.underlying42 rfl hiX) hHeld ?_
        try simp only [Act.put, List.setIfInBounds_toArray, List.set_cons_zero, List.set_cons_succ]
        refine takeL (i := 4) (v := ?_) rfl (by kernel_rfl) (by kernel_rfl) (by kernel_rfl) (fun _ _ _ h => h) (Or.inl ⟨by rfl, ?_⟩) hHeld ?_
        rotate_left
        · rintro w' ⟨r0, r1⟩; go_simp; rfl
        try simp only [Act.put, List.setIfInBounds_toArray, List.set_cons_zero, List.set_cons_succ]
        refine takeL (i := 5) (v := ?_) rfl (by kernel_rfl) (by kernel_rfl) (by kernel_rfl) (fun _ _ _ h => h) (Or.inl ⟨by rfl, ?_⟩) hHeld ?_
        rotate_left
        · rintro w' ⟨r0, r1⟩; go_simp; rfl
        try simp only [Act.put, List.setIfInBounds_toArray, List.set_cons_zero, List.set_cons_succ]
        refine takeL (i := 6) (v := ?_) rfl (by kernel_rfl) (by kernel_rfl) (by kernel_rfl) (fun _ _ _ h => h) (Or.inl ⟨by rfl, ?_⟩) hHeld ?_
        rotate_left
        · rintro w' ⟨r0, r1⟩; go_simp; rfl
        try simp only [Act.put, List.setIfInBounds_toArray, List.set_cons_zero, List.set_cons_succ]
        refine takeL (i := 7) (v := .agg RY.toArray) rfl (by kernel_rfl) (by kernel_rfl) (by kernel_rfl) (fun _ _ _ h => h) (yieldsIf_load_mid (by kernel_rfl) 41 _ rfl c (ofc + i * 20) (by rfl) RY _ (fun w' h => h.r1) Tryd.underlying41 rfl hiY) hHeld ?_
        try simp only [Act.put, List.setIfInBounds_toArray, List.set_cons_zero, List.set_cons_succ]
        by_cases hxy : x = y
        · have heq : ∀ W : World, (Op.equalIn 10000 42 (.agg RX.toArray) (.agg RY.toArray)).run Tryd.prog W = .ok true W := fun W => by rw [HEQ.out W, decide_eq_true hxy]
          have HA2 : Hid (X.take (i + 1) = Y.take (i + 1)) := hid (by rw [HTX.out, HTY.out, HA.out, hxy])
          refine takeL (i := 8) (v := .bool false) rfl (by kernel_rfl) (by kernel_rfl) (by kernel_rfl) (fun _ _ _ h => h) (Or.inl ⟨by rfl, ?_⟩) hHeld ?_
          · rintro w' _; go_simp; try rfl
          try simp only [Act.put, List.setIfInBounds_toArray, List.set_cons_zero, List.set_cons_succ]
          refine wpAnyH_done (by kernel_rfl) ?_ _
          clear hHeld heq
          go_wp2
          go_roundg (nx - (i + 1))
          case measure => omega
          case rel => exact ⟨i + 1, by omega, rfl, by go_num, HBd, HA2⟩
        · have heq : ∀ W : World, (Op.equalIn 10000 42 (.agg RX.toArray) (.agg RY.toArray)).run Tryd.prog W = .ok false W := fun W => by rw [HEQ.out W, decide_eq_false hxy]
          have HNE : Hid (¬ X = Y) := hid (fun e => hxy (by rw [← HX.out, ← HY.out, e]))
          refine takeL (i := 8) (v := .bool true) rfl (by kernel_rfl) (by kernel_rfl) (by kernel_rfl) (fun _ _ _ h => h) (Or.inl ⟨by rfl, ?_⟩) hHeld ?_
          · rintro w' _; go_simp; try rfl
          try simp only [Act.put, List.setIfInBounds_toArray, List.set_cons_zero, List.set_cons_succ]
          refine wpAnyH_done (by kernel_rfl) ?_ _
          clear hHeld heq
          go_wp2
          go_ret
          exact ⟨⟨false, ⟨fun h => (by cases h), fun h => absurd h HNE.out⟩, rfl⟩, by rw [HG.out]; exact HBd.out⟩
      · have hlti : ¬ (i : Int) < (nx : Int) := by omega
        have HEQ : Hid (X = Y) := hid (by
          have := HA.out
          rw [List.take_of_length_le (by rw [HNX.out]; omega), List.take_of_length_le (by rw [HNY.out]; omega)] at this
          exact this)
        go_wp2
        go_ret
        exact ⟨⟨true, ⟨fun _ => HEQ.out, fun _ => rfl⟩, rfl⟩, by rw [HG.out]; exact HB.out⟩
  · have hnei : ¬ (nx : Int) = (ny : Int) := by omega
    have hneb : ((nx : Int) == (ny : Int)) = false := by rw [beq_eq_false_iff_ne]; exact hnei
    have HNE : Hid (¬ X = Y) := hid (fun e => hne (by rw [← HNX.out, ← HNY.out, e]))
    go_enter Tryd.func15, Tryd.ntmps15
    go_wp2
    go_ret
    exact ⟨⟨false, ⟨fun h => (by cases h), fun h => absurd h HNE.out⟩, rfl⟩, by exact Below.refl _ _⟩
end Go.Proofs.YtjgjeedablgmeaaDoor
