/- The law 'ObjectHeaders': its walk. -/
import Derived.Test.YtbpdielmdhhdfaaGreatDoorHea
namespace Go.Proofs.YtbpdielmdhhdfaaGreatDoor
open Go.RowKit
set_option linter.unusedVariables false
set_option linter.unusedSimpArgs false
set_option maxRecDepth 20000 in
set_option maxHeartbeats 4000000 in
theorem walkH_short (k : Int) (a a' : Option Addr) (cap cap' : Nat) (zs ys : List Int) (w : World) (hl : zs.length + ys.length ≤ 300000) (hz : IsB zs) (hy : IsB ys) (hS : Sl w a cap zs) (hS' : Sl w a' cap' ys) (hw : Lw w) :
    Calls Tryz.prog 3 #[.agg #[.int .i64 k, .slice a zs.length cap], .slice a' ys.length cap'] w fun e w' => e = .returned (.bool true) ∧ Below w.heap.size w w' := by
  obtain ⟨n, HN⟩ : ∃ n, Hid (zs.length = n) := ⟨_, rfl⟩
  obtain ⟨m, HM⟩ : ∃ m, Hid (ys.length = m) := ⟨_, rfl⟩
  obtain ⟨G, HG⟩ : ∃ G, Hid (w.heap.size = G) := ⟨_, rfl⟩
  have hnm : n + m ≤ 300000 := by rw [← HN.out, ← HM.out]; exact hl
  have hnmi : ¬ (300000 : Int) < (n : Int) + m := by omega
  have hlz : zs.length ≤ 300000 := by omega
  have hly : ys.length ≤ 300000 := by omega
  obtain ⟨er, HER⟩ : ∃ er, Hid (errE k n = er) := ⟨_, rfl⟩
  obtain ⟨X, HX⟩ : ∃ X, Hid (encX k zs = X) := ⟨_, rfl⟩
  obtain ⟨xl, HXL⟩ : ∃ xl, Hid (X.length = xl) := ⟨_, rfl⟩
  have hxl : xl ≤ 200000 := by rw [← HXL.out, ← HX.out]; exact encX_len k zs hlz
  have HXB : Hid (IsB X) := by rw [← HX.out]; exact encX_isB k zs hz
  have HX0 : Hid (er ≠ 0 → xl = 0) := fun h => by
    rw [← HXL.out, ← HX.out]; unfold encX; rw [if_neg (by rw [HN.out, HER.out]; exact h)]; rfl
  obtain ⟨zr, HZ⟩ : ∃ zr : Array Value, Hid (zr = (row .u8 z20).toArray) := ⟨_, rfl⟩
  have hz32 := zero25
  have hz31 := zero31
  rw [← HZ.out] at hz32 hz31
  obtain ⟨fr, HE⟩ : ∃ fr, Hid (idZ k zs = fr) := ⟨_, rfl⟩
  have hfl : fr.length = 20 := by rw [← HE.out]; exact idZ_len _ _
  have hi32 : (Tryz.prog.info? 32).map (·.size) = some (row .u8 fr).length := by rw [row_len, hfl]; exact Tryz.size32
  have hi31 : (Tryz.prog.info? 31).map (·.size) = some (row .u8 fr).length := by rw [row_len, hfl]; exact Tryz.size31
  have T2 : Hid ((Tryz.prog.info? 32).map (·.size) = some (row .u8 fr).toArray.size) := hid (by rw [row_size, hfl]; exact Tryz.size32)
  have T2' : Hid ((Tryz.prog.info? 31).map (·.size) = some (row .u8 fr).toArray.size) := hid (by rw [row_size, hfl]; exact Tryz.size31)
  have T3 : Hid ((row .u8 fr).toArray.all (·.oneCell') = true) := all_oneCell_toArray (row_one _ _)
  have hsm := same25 fr hfl
  have HLW : Hid (∀ W, Below G w W → Lw W) := fun W hW => hw.below (by rw [HG.out]; exact hW)
  have HSS : Hid (∀ W, Below G w W → Sl W a cap zs) := fun W hW => hS.below (by rw [HG.out]; exact hW)
  have HSY : Hid (∀ W, Below G w W → Sl W a' cap' ys) := fun W hW => hS'.below (by rw [HG.out]; exact hW)
  have HSB : Hid (0 < zs.length → ∃ b off, a = some ⟨b, off, none⟩ ∧ b < G) := fun h0 => by
    obtain ⟨b, off, e1, e2, _⟩ := hS.at_ h0
    exact ⟨b, off, e1, by rw [← HG.out]; exact e2⟩
  obtain ⟨w0, HW0⟩ : ∃ w0, Hid (w.alloc (.cells #[.int .i64 k, .slice a n cap] 25) = w0) := ⟨_, rfl⟩
  have hs0 : w0.heap.size = G + 1 := by rw [← HW0.out, ← HG.out]; simp
  have HF0 : Hid (Fx w k a n cap w0) := hid (by
    rw [← HW0.out]
    exact ⟨(Below.refl _ w).alloc (Nat.le_refl _) _, by simp, by simp, by simp⟩)
  have HR8 : Hid (Calls Tryz.prog 8 #[.slice a n cap] w0 fun e w' => e = .returned (.slice (some ⟨G + 1, 0, none⟩) n (n + 2)) ∧ Below (G + 1) w0 w' ∧ Room w' (G + 1) zs) := hid (by
    have := roomy_any a cap zs w0 hlz (HSS.out w0 (by rw [← HG.out]; exact HF0.out.below)).at_
    rw [HN.out, hs0] at this
    exact this)
  have HEN : Hid (∀ W, Below G w W → Room W (G + 1) zs → Calls Tryz.prog 9 #[.agg #[.int .i64 k, .slice (some ⟨G + 1, 0, none⟩) n (n + 2)]] W fun e w' => ∃ ax cx, e = .returned (.tuple #[.slice ax xl cx, errV er]) ∧ New W w' ax cx X ∧ Below W.heap.size W w') := fun W hW hr => by
    have := enc_x k (some ⟨G + 1, 0, none⟩) (zs.length + 2) zs W (HLW.out W hW).tab hlz hr.sl
    rw [HX.out, HXL.out, HN.out, HER.out] at this
    exact this
  have HID : Hid (∀ W, Below G w W → Room W (G + 1) zs → Calls Tryz.prog 10 #[.agg #[.int .i64 k, .slice (some ⟨G + 1, 0, none⟩) n (n + 2)]] W fun e w' => e = .returned (.tuple #[.agg (row .u8 fr).toArray, errV er]) ∧ Below W.heap.size W w') := fun W hW hr => by
    have := id_any k (some ⟨G + 1, 0, none⟩) (zs.length + 2) zs W (HLW.out W hW).tab hlz hz hr.sl
    rw [HE.out, HN.out, HER.out] at this
    exact this
  have HTE : Hid (∀ W, Below G w W → Calls Tryz.prog 11 #[errV er] W fun e w' => e = .returned (.int .i64 er) ∧ Below W.heap.size W w') := fun W hW => tell_any er W (HLW.out W hW)
  have HST : Hid (∀ W, Below G w W → Room W (G + 1) zs → Calls Tryz.prog 12 #[.slice (some ⟨G + 1, 0, none⟩) n (n + 2), .slice a n cap] W fun e w' => e = .returned (.bool true) ∧ W.grownBy w' (some (G + 1))) := fun W hW hr => by
    have := still_keep a cap (G + 1) zs W hlz hz hr (fun h0 => by
      obtain ⟨b, off, e1, e2, e3⟩ := (HSS.out W hW).at_ h0
      obtain ⟨b', off', e1', e2'⟩ := HSB.out h0
      rw [e1] at e1'
      cases e1'
      exact ⟨b, off, e1, by omega, e3⟩)
    rw [HN.out] at this
    exact this
  have HRE : Hid (∀ W, Below G w W → Calls Tryz.prog 14 #[.agg #[.int .i64 k, .slice a n cap]] W fun e w' => ∃ ax cx, e = .returned (.tuple #[.slice ax xl cx, .int .i64 er]) ∧ New W w' ax cx X ∧ Below W.heap.size W w') := fun W hW => by
    have := ref_x k a cap zs W hlz (HSS.out W hW)
    rw [HX.out, HXL.out, HN.out, HER.out] at this
    exact this
  have HRI : Hid (∀ W, Below G w W → Calls Tryz.prog 15 #[.agg #[.int .i64 k, .slice a n cap]] W fun e w' => e = .returned (.tuple #[.agg (row .u8 fr).toArray, .int .i64 er]) ∧ Below W.heap.size W w') := fun W hW => by
    have := refID_any k a cap zs W hlz hz (HSS.out W hW)
    rw [HE.out, HN.out, HER.out] at this
    exact this
  have HDY : Hid (∀ W, Below G w W → Calls Tryz.prog 17 #[.slice a' m cap'] W fun e w' => e = .returned (.bool true) ∧ Below W.heap.size W w') := fun W hW => by
    have := decodes_any a' cap' ys W hly hy (HSY.out W hW) (HLW.out W hW)
    rw [HM.out] at this
    exact this
  have HDX : Hid (∀ W ax cx, Below G w W → Sl W ax cx X → Calls Tryz.prog 17 #[.slice ax xl cx] W fun e w' => e = .returned (.bool true) ∧ Below W.heap.size W w') := fun W ax cx hW hx => by
    have := decodes_any ax cx X W (by rw [HXL.out]; omega) HXB.out hx (HLW.out W hW)
    rw [HXL.out] at this
    exact this
  rw [HN.out, HM.out]
  clear hS hS' hw hl
  go_enter Tryz.func3, Tryz.ntmps3
  go_wp2_with fail
  rw [HG.out, HW0.out]
  refine HR8.out.mono ?_
  rintro ev w1 ⟨rfl, hb1, hr1⟩
  have HF1 : Hid (Fx w k a n cap w1) := HF0.out.on (by rw [hs0]; exact hb1)
  have HR1 : Hid _ := hr1
  have hs1 : G + 1 < w1.heap.size := hr1.lt
  have HBx : Hid (∀ W, Fx w k a n cap W → Below G w W) := fun W h => by rw [← HG.out]; exact h.below
  clear hb1 hr1
  have hc0 := HF1.out.c0
  have hc1 := HF1.out.c1
  rw [HG.out] at hc0 hc1
  go_wp2_with fail
  refine (HEN.out w1 (HBx.out _ HF1.out) HR1.out).mono ?_
  rintro ev w2 ⟨ax, cx, rfl, hnew2, hb2⟩
  have HF2 : Hid (Fx w k a n cap w2) := HF1.out.on hb2
  have HR2 : Hid (Room w2 (G + 1) zs) := HR1.out.below hb2
  have HN2 : Hid (New w1 w2 ax cx X) := hnew2
  have hs2 := hb2.size
  clear hb2 hnew2 hc0 hc1
  have hc0 := HF2.out.c0
  have hc1 := HF2.out.c1
  rw [HG.out] at hc0 hc1
  go_wp2_with fail
  refine (HID.out w2 (HBx.out _ HF2.out) HR2.out).mono ?_
  rintro ev w3 ⟨rfl, hb3⟩
  have HF3 : Hid (Fx w k a n cap w3) := HF2.out.on hb3
  have HR3 : Hid (Room w3 (G + 1) zs) := HR2.out.below hb3
  have HN3 : Hid (New w1 w3 ax cx X) := HN2.out.step (r := G) (grown_of_below hb3 _) (by omega)
  have hs3 := hb3.size
  clear hb3 hc0 hc1
  have HT4 : Hid ((w3.alloc (.cells zr 32)).there w3.heap.size 0 (row .u8 fr).toArray.size) := hid (by rw [row_size, hfl, HZ.out]; exact there_row (heap_alloc_new w3 _) rfl)
  obtain ⟨w4, HW4⟩ : ∃ w4, Hid (w4 = (w3.alloc (.cells zr 32)).setCells w3.heap.size 0 (row .u8 fr).toArray.toList) := ⟨_, rfl⟩
  have hb4 : Below w3.heap.size w3 w4 := by rw [HW4.out]; exact below_setCells (Nat.le_refl _) _ _ _ _ ((Below.refl _ _).alloc (Nat.le_refl _) _)
  have HI4 : Hid (w4.rangeAt w3.heap.size 0 (row .u8 fr)) := hid (by rw [HW4.out]; exact World.rangeAt_setCells_same _ w3.heap.size 0 _ (by have := HT4.out; simpa using this))
  have hs4 : w4.heap.size = w3.heap.size + 1 := by rw [HW4.out, size_setCells]; simp
  obtain ⟨I, HI⟩ : ∃ I, Hid (w3.heap.size = I) := ⟨_, rfl⟩
  have HF4 : Hid (Fx w k a n cap w4) := HF3.out.on hb4
  have HR4 : Hid (Room w4 (G + 1) zs) := HR3.out.below hb4
  have HN4 : Hid (New w1 w4 ax cx X) := HN3.out.step (r := G) (grown_of_below hb4 _) (by omega)
  have hIG : G + 1 < I := by rw [← HI.out]; omega
  rw [HI.out] at hs4 HI4
  go_wp2_with (refine wpList_store_mid rfl 32 _ _ rfl w3.heap.size 0 (row .u8 fr).toArray rfl rfl HT4.out T2.out T3.out ?_; rw [← HW4.out])
  rw [HI.out]
  clear hb4
  refine (HTE.out w4 (HBx.out _ HF4.out)).mono ?_
  rintro ev w5 ⟨rfl, hb5⟩
  have HF5 : Hid (Fx w k a n cap w5) := HF4.out.on hb5
  have HR5 : Hid (Room w5 (G + 1) zs) := HR4.out.below hb5
  have HN5 : Hid (New w1 w5 ax cx X) := HN4.out.step (r := G) (grown_of_below hb5 _) (by omega)
  have HI5 : Hid (w5.rangeAt I 0 (row .u8 fr)) := range_step (r := G) HI4.out (grown_of_below hb5 _) (by omega) (by omega)
  have hs5 := hb5.size
  clear hb5
  have hc0 := HF5.out.c0
  have hc1 := HF5.out.c1
  rw [HG.out] at hc0 hc1
  go_wp2_with fail
  refine (HST.out w5 (HBx.out _ HF5.out) HR5.out).mono ?_
  rintro ev w6 ⟨rfl, hg6⟩
  have HF6 : Hid (Fx w k a n cap w6) := HF5.out.step hg6 (by rw [HG.out]; omega)
  have HN6 : Hid (New w1 w6 ax cx X) := HN5.out.step hg6 (by omega)
  have HI6 : Hid (w6.rangeAt I 0 (row .u8 fr)) := range_step HI5.out hg6 (by omega) (by omega)
  have hs6 := hg6.size
  clear hg6 hc0 hc1
  have hc0 := HF6.out.c0
  have hc1 := HF6.out.c1
  rw [HG.out] at hc0 hc1
  go_wp2_with fail
  refine (theirs_any k a n cap w6).mono ?_
  rintro ev w7 ⟨rfl, hb7⟩
  have hs7 := hb7.size
  obtain ⟨w8, HW8⟩ : ∃ w8, Hid (w7.alloc (.cells #[.int .i64 k, .slice a n cap] 39) = w8) := ⟨_, rfl⟩
  obtain ⟨T, HT⟩ : ∃ T, Hid (w7.heap.size = T) := ⟨_, rfl⟩
  have hb8 : Below w6.heap.size w6 w8 := by rw [← HW8.out]; exact hb7.alloc hb7.size _
  have hs8 : w8.heap.size = T + 1 := by rw [← HW8.out, ← HT.out]; simp
  have ht0 : w8.cell? ⟨T, 0, none⟩ = some (.int .i64 k) := by rw [← HW8.out, ← HT.out]; simp
  have ht1 : w8.cell? ⟨T, 1, none⟩ = some (.slice a n cap) := by rw [← HW8.out, ← HT.out]; simp
  have HF8 : Hid (Fx w k a n cap w8) := HF6.out.on hb8
  have HN8 : Hid (New w1 w8 ax cx X) := HN6.out.step (r := G) (grown_of_below hb8 _) (by omega)
  have HI8 : Hid (w8.rangeAt I 0 (row .u8 fr)) := range_step (r := G) HI6.out (grown_of_below hb8 _) (by omega) (by omega)
  have hIT : I < T := by rw [← HT.out]; omega
  clear hb7 hb8 hc0 hc1
  go_wp2_with fail
  rw [HW8.out, HT.out]
  refine (HRE.out w8 (HBx.out _ HF8.out)).mono ?_
  rintro ev w9 ⟨ay, cy, rfl, hnew9, hb9⟩
  have HF9 : Hid (Fx w k a n cap w9) := HF8.out.on hb9
  have HN9 : Hid (New w1 w9 ax cx X) := HN8.out.step (r := G) (grown_of_below hb9 _) (by omega)
  have HY9 : Hid (New w8 w9 ay cy X) := hnew9
  have HI9 : Hid (w9.rangeAt I 0 (row .u8 fr)) := range_step (r := G) HI8.out (grown_of_below hb9 _) (by omega) (by omega)
  have hs9 := hb9.size
  have hu0 : w9.cell? ⟨T, 0, none⟩ = some (.int .i64 k) := (hb9.cell (p := ⟨T, 0, none⟩) (show T < _ by omega)).trans ht0
  have hu1 : w9.cell? ⟨T, 1, none⟩ = some (.slice a n cap) := (hb9.cell (p := ⟨T, 1, none⟩) (show T < _ by omega)).trans ht1
  clear hb9 hnew9 ht0 ht1
  go_wp2_with fail
  refine (HRI.out w9 (HBx.out _ HF9.out)).mono ?_
  rintro ev w10 ⟨rfl, hb10⟩
  have HF10 : Hid (Fx w k a n cap w10) := HF9.out.on hb10
  have HN10 : Hid (New w1 w10 ax cx X) := HN9.out.step (r := G) (grown_of_below hb10 _) (by omega)
  have HY10 : Hid (New w8 w10 ay cy X) := HY9.out.step (r := G) (grown_of_below hb10 _) (by omega)
  have HI10 : Hid (w10.rangeAt I 0 (row .u8 fr)) := range_step (r := G) HI9.out (grown_of_below hb10 _) (by omega) (by omega)
  have hs10 := hb10.size
  clear hb10 hu0 hu1
  have HT11 : Hid ((w10.alloc (.cells zr 31)).there w10.heap.size 0 (row .u8 fr).toArray.size) := hid (by rw [row_size, hfl, HZ.out]; exact there_row (heap_alloc_new w10 _) rfl)
  obtain ⟨w11, HW11⟩ : ∃ w11, Hid (w11 = (w10.alloc (.cells zr 31)).setCells w10.heap.size 0 (row .u8 fr).toArray.toList) := ⟨_, rfl⟩
  have hb11 : Below w10.heap.size w10 w11 := by rw [HW11.out]; exact below_setCells (Nat.le_refl _) _ _ _ _ ((Below.refl _ _).alloc (Nat.le_refl _) _)
  have HJ11 : Hid (w11.rangeAt w10.heap.size 0 (row .u8 fr)) := hid (by rw [HW11.out]; exact World.rangeAt_setCells_same _ w10.heap.size 0 _ (by have := HT11.out; simpa using this))
  have hs11 : w11.heap.size = w10.heap.size + 1 := by rw [HW11.out, size_setCells]; simp
  obtain ⟨J, HJ⟩ : ∃ J, Hid (w10.heap.size = J) := ⟨_, rfl⟩
  rw [HJ.out] at hs11 HJ11
  have HF11 : Hid (Fx w k a n cap w11) := HF10.out.on hb11
  have HN11 : Hid (New w1 w11 ax cx X) := HN10.out.step (r := G) (grown_of_below hb11 _) (by omega)
  have HY11 : Hid (New w8 w11 ay cy X) := HY10.out.step (r := G) (grown_of_below hb11 _) (by omega)
  have HI11 : Hid (w11.rangeAt I 0 (row .u8 fr)) := range_step (r := G) HI10.out (grown_of_below hb11 _) (by omega) (by omega)
  have HSA : Hid (Calls Tryz.prog 16 #[.slice ax xl cx, .slice ay xl cy] w11 fun e w' => e = .returned (.bool true) ∧ ∃ q, w' = w11.drewN q) := hid (by
    have := same_any ax ay cx cy X w11 (by rw [HXL.out]; omega) (fun h0 => by obtain ⟨b, off, e1, _, e3⟩ := HN11.out.sl.at_ h0; exact ⟨b, off, e1, e3⟩) (fun h0 => by obtain ⟨b, off, e1, _, e3⟩ := HY11.out.sl.at_ h0; exact ⟨b, off, e1, e3⟩)
    rw [HXL.out] at this
    exact this)
  clear hb11
  go_wp2_with (refine wpList_store_mid rfl 31 _ _ rfl w10.heap.size 0 (row .u8 fr).toArray rfl rfl HT11.out T2'.out T3.out ?_; rw [← HW11.out])
  rw [HJ.out]
  refine HSA.out.mono ?_
  rintro ev w12 ⟨rfl, q12, hw12⟩
  have hb12 : Below w11.heap.size w11 w12 := by rw [hw12]; exact below_drewH (Below.refl _ _) _
  clear hw12
  have HF12 : Hid (Fx w k a n cap w12) := HF11.out.on hb12
  have HN12 : Hid (New w1 w12 ax cx X) := HN11.out.step (r := G) (grown_of_below hb12 _) (by omega)
  have HI12 : w12.rangeAt I 0 (row .u8 fr) := range_step (r := G) HI11.out (grown_of_below hb12 _) (by have := HJ.out; omega) (by omega)
  have HJ12 : w12.rangeAt J 0 (row .u8 fr) := range_step (r := G) HJ11.out (grown_of_below hb12 _) (by omega) (by rw [← HJ.out]; omega)
  have hs12 := hb12.size
  clear hb12
  go_wp2_with (first
    | (refine BigFrame.wpList_want (by rfl) (fun K hK => ?_); refine wp_load_mid 32 _ rfl I 0 rfl (row .u8 fr) _ HI12 Tryz.underlying32 rfl hi32 ?_; refine hK _ _ ?_; clear hK K)
    | (refine BigFrame.wpList_want (by rfl) (fun K hK => ?_); refine wp_load_mid 31 _ rfl J 0 rfl (row .u8 fr) _ HJ12 Tryz.underlying31 rfl hi31 ?_; refine hK _ _ ?_; clear hK K)
    | (go_at_call 11; refine (HTE.out w12 (HBx.out _ HF12.out)).mono ?_; rintro ev w13 ⟨rfl, hb13⟩))
  have HF13 : Hid (Fx w k a n cap w13) := HF12.out.on hb13
  have HN13 : Hid (New w1 w13 ax cx X) := HN12.out.step (r := G) (grown_of_below hb13 _) (by omega)
  have hs13 := hb13.size
  clear hb13
  refine (HDY.out w13 (HBx.out _ HF13.out)).mono ?_
  rintro ev w14 ⟨rfl, hb14⟩
  have HF14 : Hid (Fx w k a n cap w14) := HF13.out.on hb14
  have HN14 : Hid (New w1 w14 ax cx X) := HN13.out.step (r := G) (grown_of_below hb14 _) (by omega)
  have hs14 := hb14.size
  clear hb14
  by_cases her : er = 0
  · subst her
    go_wp2_with fail
    refine (HDX.out w14 ax cx (HBx.out _ HF14.out) HN14.out.sl).mono ?_
    rintro ev w15 ⟨rfl, hb15⟩
    have HF15 : Hid (Fx w k a n cap w15) := HF14.out.on hb15
    clear hb15
    go_wp2
    go_ret
    exact ⟨rfl, by rw [HG.out]; exact HBx.out _ HF15.out⟩
  · have her2 : (er == 0) = false := by simpa using her
    have hx0 := HX0.out her
    subst hx0
    go_wp2
    go_ret
    exact ⟨rfl, by rw [HG.out]; exact HBx.out _ HF14.out⟩
end Go.Proofs.YtbpdielmdhhdfaaGreatDoor
