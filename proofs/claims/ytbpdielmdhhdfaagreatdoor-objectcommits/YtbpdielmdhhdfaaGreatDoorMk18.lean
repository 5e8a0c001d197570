import Derived.Test.YtbpdielmdhhdfaaGreatDoorMk17
namespace Go.Proofs.YtbpdielmdhhdfaaGreatDoor
open Go.RowKit
set_option linter.unusedVariables false
set_option linter.unusedSimpArgs false
structure QT (H J b off b2 off2 n pc qc i : Nat) (Rk : List Value) (W : World) : Prop where
  x20 : W.cell? ⟨H, 20, none⟩ = some (.slice (some ⟨b, off, none⟩) n pc)
  y20 : W.cell? ⟨J, 20, none⟩ = some (.slice (some ⟨b2, off2, none⟩) n qc)
  rk : W.rangeAt b (off + i * 20) Rk
  ri : W.rangeAt b2 (off2 + i * 20) Rk
set_option maxRecDepth 20000 in
set_option maxHeartbeats 4000000 in
theorem readsCommit_any (a : Option Addr) (cap : Nat) (zs : List Int) (w : World) (hl : zs.length ≤ 200000) (hz : IsB zs) (hS : Sl w a cap zs) (hw : Lw w) (he : Ers w) :
    Calls Tryz.prog 25 #[.slice a zs.length cap] w fun e w' => e = .returned (.bool true) ∧ Below w.heap.size w w' := by
  obtain ⟨n, HN⟩ : ∃ n, Hid (zs.length = n) := ⟨_, rfl⟩
  obtain ⟨G, HG⟩ : ∃ G, Hid (w.heap.size = G) := ⟨_, rfl⟩
  obtain ⟨l, HL⟩ : ∃ l, Hid (Lib.bytesOf zs = l) := ⟨_, rfl⟩
  obtain ⟨ZV, HZ⟩ : ∃ l : List Value, Hid (l = cmV (cm0 z20) none 0) := ⟨_, rfl⟩
  have hz60 : ∀ w : World, (zeroValue 60).run Tryz.prog w = .ok (.agg ZV.toArray) w := fun w => by rw [HZ.out]; exact zero60 w
  have hz66 : ∀ w : World, (zeroValue 66).run Tryz.prog w = .ok (.agg ZV.toArray) w := fun w => by rw [HZ.out]; exact zero66 w
  have HZL : Hid (ZV.length = 30) := hid (by rw [HZ.out]; exact cmV_len _ _ _ rfl)
  have HLW : Hid (∀ W, Below G w W → Lw W) := fun W hW => hw.below (by rw [HG.out]; exact hW)
  have HER : Hid (∀ W, Below G w W → Ers W) := fun W hW => he.below (by rw [HG.out]; exact hW)
  have HSS : Hid (∀ W, Below G w W → Sl W a cap zs) := fun W hW => hS.below (by rw [HG.out]; exact hW)
  have HSB : Hid (0 < zs.length → ∃ b off, a = some ⟨b, off, none⟩ ∧ b < G) := fun h0 => by
    obtain ⟨b, off, e1, e2, _⟩ := hS.at_ h0
    exact ⟨b, off, e1, by rw [← HG.out]; exact e2⟩
  have HR8 : Hid (Calls Tryz.prog 8 #[.slice a n cap] w fun e w' => e = .returned (.slice (some ⟨G, 0, none⟩) n (n + 2)) ∧ Below G w w' ∧ Room w' G zs) := by
    have := roomy_any a cap zs w (by omega) hS.at_
    rw [HN.out, HG.out] at this
    exact this
  have HRT : Hid (∀ W, Below G w W → Room W G zs → Calls Tryz.prog 61 #[.slice (some ⟨G, 0, none⟩) n (n + 2)] W fun e w' => Below W.heap.size W w' ∧ PostBC l W e w') := fun W hW hr => by
    have := readCommit_any (some ⟨G, 0, none⟩) (zs.length + 2) zs hl hz W (HLW.out W hW).tab (HER.out W hW) (HLW.out W hW).mx hr.sl
    rw [HN.out, HL.out] at this
    exact this
  have HRR : Hid (∀ W, Below G w W → Calls Tryz.prog 62 #[.slice a n cap] W (PostRC l W)) := fun W hW => by
    have := readCommitR_any a cap zs hl W (HSS.out W hW)
    rw [HN.out, HL.out] at this
    exact this
  have HST : Hid (∀ W, Below G w W → Room W G zs → Calls Tryz.prog 12 #[.slice (some ⟨G, 0, none⟩) n (n + 2), .slice a n cap] W fun e w' => e = .returned (.bool true) ∧ W.grownBy w' (some G)) := fun W hW hr => by
    have := still_keep a cap G zs W (by omega) hz hr (fun h0 => by
      obtain ⟨b, off, e1, e2, e3⟩ := (HSS.out W hW).at_ h0
      obtain ⟨b', off', e1', e2'⟩ := HSB.out h0
      rw [e1] at e1'
      cases e1'
      exact ⟨b, off, e1, e2', e3⟩)
    rw [HN.out] at this
    exact this
  have HTE : Hid (∀ W, Below G w W → Calls Tryz.prog 11 #[.iface 35 (.int .i64 22)] W fun e w' => e = .returned (.int .i64 22) ∧ Below W.heap.size W w') := fun W hW => tell_errno 22 W (HLW.out W hW).hand
  rw [HN.out, HG.out]
  clear hS hw he
  go_enter Tryz.func25, Tryz.ntmps25
  go_wp2_with fail
  refine HR8.out.mono ?_
  rintro ev w1 ⟨rfl, hb1, hr1⟩
  have HB1 : Hid (Below G w w1) := hb1
  have HR1 : Hid (Room w1 G zs) := hr1
  have hG1 : G < w1.heap.size := hr1.lt
  clear hb1 hr1
  go_wp2_with fail
  refine (HRT.out w1 HB1.out HR1.out).mono ?_
  rintro ev w2 ⟨hb2, T, htg, ⟨⟨hok, heq⟩, pa, pc, rfl, hoi⟩ | ⟨hno, rfl⟩⟩
  · have HTG : Hid (TC l T) := htg
    have HWT : Hid (WfC T) := hid (by obtain ⟨h1, r, h2, _⟩ := htg; exact ⟨⟨h1.1, h1.2.1⟩, h2.wf⟩)
    have HOK : Hid (okC T) := hok
    have HEQ : Hid (cmB T = l) := heq
    have hb2s := hb2.size
    have OI2 : Hid (OE 32 w1.heap.size pa pc T.ids w2) := hoi
    clear htg hok heq hoi
    obtain ⟨TV, HTV⟩ : ∃ l : List Value, Hid (cmV T pa pc = l) := ⟨_, rfl⟩
    have HVL : Hid (TV.length = 30) := hid (by rw [← HTV.out]; exact cmV_len T pa pc HWT.out.1.1)
    have I60 : Hid ((Tryz.prog.info? 60).map (·.size) = some TV.toArray.size) := hid (by rw [List.size_toArray, HVL.out]; exact Tryz.size60)
    have O1 : Hid (TV.toArray.all (·.oneCell') = true) := hid (by rw [← HTV.out]; exact all_oneCell_toArray (cmV_one T pa pc))
    have D1 : Hid (ZV.toArray.size = TV.toArray.size) := hid (by rw [List.size_toArray, List.size_toArray, HZL.out, HVL.out])
    have D0 : Hid ((w2.alloc (.cells ZV.toArray 60)).heap[w2.heap.size]? = some (.cells ZV.toArray 60 (0, 0))) := heap_alloc_new w2 _
    obtain ⟨w3, HW3⟩ : ∃ w3, Hid ((w2.alloc (.cells ZV.toArray 60)).setRow w2.heap.size TV.toArray = w3) := ⟨_, rfl⟩
    obtain ⟨H, HH⟩ : ∃ H, Hid (w2.heap.size = H) := ⟨_, rfl⟩
    have hGH : G < H := by rw [← HH.out]; omega
    have hb23 : Below w2.heap.size w2 w3 := by rw [← HW3.out]; exact below_setRow ((Below.refl _ w2).alloc (Nat.le_refl _) _) (Nat.le_refl _) _
    have hb3 : Below w1.heap.size w1 w3 := hb2.trans (hb23.mono hb2.size)
    have BX3 : Hid (Bk H TV 60 w3) := ⟨by rw [← HW3.out, ← HH.out]; exact setRow_heap _ _ _ TV.toArray _ _ D0.out⟩
    have OI3 : Hid (OE 32 w1.heap.size pa pc T.ids w3) := OI2.out.keep hb23
    have HB3 : Hid (Below G w w3) := HB1.out.trans (hb3.mono (by omega))
    have HR3 : Hid (Room w3 G zs) := HR1.out.below hb3
    clear hb2 hb3 hb23
    rw [HTV.out]
    go_wp2_with (first
      | (refine wpList_store_row rfl 60 _ _ rfl w2.heap.size TV.toArray rfl rfl 60 ZV.toArray D0.out I60.out D1.out O1.out ?_; rw [HW3.out, HH.out])
      | fail)
    refine (tell_nil w3).mono ?_
    rintro ev w4 ⟨rfl, hb4⟩
    have HB4 : Hid (Below G w w4) := HB3.out.trans (hb4.mono (by have := BX3.out.lt; omega))
    have HR4 : Hid (Room w4 G zs) := HR3.out.below hb4
    have BX4 : Hid (Bk H TV 60 w4) := BX3.out.below hb4
    have OI4 : Hid (OE 32 w1.heap.size pa pc T.ids w4) := OI3.out.keep hb4
    clear hb4
    go_wp2_with fail
    refine (HST.out w4 HB4.out HR4.out).mono ?_
    rintro ev w5 ⟨rfl, hg5⟩
    have HB5 : Hid (Below G w w5) := HB4.out.grown hg5 (Nat.le_of_lt HR4.out.lt) (fun k hk => by cases hk; exact Nat.le_refl _)
    have BX5 : Hid (Bk H TV 60 w5) := BX4.out.grown hg5 (by omega)
    have OI5 : Hid (OE 32 w1.heap.size pa pc T.ids w5) := OI4.out.step hg5 hG1
    clear hg5
    go_wp2_with fail
    refine (HRR.out w5 HB5.out).mono ?_
    rintro ev w6 ⟨hb6, t, qa, qc, b, rfl, hwf, hoe, h1, h2⟩
    have hbt := h2 T HWT.out HOK.out HEQ.out
    subst hbt
    obtain ⟨g1, g2⟩ := h1 rfl
    have htT := cm_back t T hwf g1 (by rw [g2]; exact HTG.out)
    subst htT
    clear h1 h2 g1 g2 hwf
    have hb6s := hb6.size
    have BX6 : Hid (Bk H TV 60 w6) := BX5.out.below hb6
    have OI6 : Hid (OE 32 w1.heap.size pa pc T.ids w6) := OI5.out.keep hb6
    have OQ6 : Hid (OE 31 w5.heap.size qa qc T.ids w6) := hoe
    obtain ⟨UV, HUV⟩ : ∃ l : List Value, Hid (cmV T qa qc = l) := ⟨_, rfl⟩
    have HUL : Hid (UV.length = 30) := hid (by rw [← HUV.out]; exact cmV_len T qa qc HWT.out.1.1)
    have I66 : Hid ((Tryz.prog.info? 66).map (·.size) = some UV.toArray.size) := hid (by rw [List.size_toArray, HUL.out]; exact Tryz.size66)
    have O2 : Hid (UV.toArray.all (·.oneCell') = true) := hid (by rw [← HUV.out]; exact all_oneCell_toArray (cmV_one T qa qc))
    have D2 : Hid (ZV.toArray.size = UV.toArray.size) := hid (by rw [List.size_toArray, List.size_toArray, HZL.out, HUL.out])
    obtain ⟨w7, HW7⟩ : ∃ w7, Hid ((w6.alloc (.cells ZV.toArray 66)).setRow w6.heap.size UV.toArray = w7) := ⟨_, rfl⟩
    obtain ⟨J, HJ⟩ : ∃ J, Hid (w6.heap.size = J) := ⟨_, rfl⟩
    have D6 : Hid ((w6.alloc (.cells ZV.toArray 66)).heap[w6.heap.size]? = some (.cells ZV.toArray 66 (0, 0))) := heap_alloc_new w6 _
    have hb67 : Below w6.heap.size w6 w7 := by rw [← HW7.out]; exact below_setRow ((Below.refl _ w6).alloc (Nat.le_refl _) _) (Nat.le_refl _) _
    have BX7 : Hid (Bk H TV 60 w7) := BX6.out.below hb67
    have BY7 : Hid (Bk J UV 66 w7) := ⟨by rw [← HW7.out, ← HJ.out]; exact setRow_heap _ _ _ UV.toArray _ _ D6.out⟩
    have PA7 : Hid (Pa w7 pa pc T.ids) := (OI6.out.keep hb67).pa HWT.out.2
    have QA7 : Hid (Pa w7 qa qc T.ids) := (OQ6.out.keep hb67).pa HWT.out.2
    have HB7 : Hid (Below G w w7) := HB5.out.trans ((hb6.trans (hb67.mono hb6.size)).mono (Nat.le_of_lt (by have := BX5.out.lt; omega)))
    clear hb6 hb67 hoe
    rw [HUV.out]
    have XC : Hid (∀ W, Bk H TV 60 W → BoxC H T pa pc W) := fun W hW => hW.cells HTV.out HWT.out.1.1
    have YC : Hid (∀ W, Bk J UV 66 W → BoxC J T qa qc W) := fun W hW => hW.cells HUV.out HWT.out.1.1
    obtain ⟨PV, HPV⟩ : ∃ l : List Value, Hid ((perV T.au).toList = l) := ⟨_, rfl⟩
    obtain ⟨PW, HPW⟩ : ∃ l : List Value, Hid ((perV T.co).toList = l) := ⟨_, rfl⟩
    have CS1 : Hid (∀ W, Calls Tryz.prog 63 #[.agg PV.toArray, .agg PV.toArray] W fun e w' => e = .returned (.bool true) ∧ Below W.heap.size W w') := fun W => by rw [← HPV.out]; exact samePerson_any T.au W
    have CS2 : Hid (∀ W, Calls Tryz.prog 63 #[.agg PW.toArray, .agg PW.toArray] W fun e w' => e = .returned (.bool true) ∧ Below W.heap.size W w') := fun W => by rw [← HPW.out]; exact samePerson_any T.co W
    have R7 : Hid (w7.rangeAt H 21 PV) := hid (by rw [← HPV.out]; exact (XC.out _ BX7.out).au)
    have S7 : Hid (w7.rangeAt J 21 PV) := hid (by rw [← HPV.out]; exact (YC.out _ BY7.out).au)
    have hi58 : (Tryz.prog.info? 58).map (·.size) = some PV.length := by rw [← HPV.out]; exact Tryz.size58
    have hi64 : (Tryz.prog.info? 64).map (·.size) = some PV.length := by rw [← HPV.out]; exact Tryz.size64
    have hj58 : (Tryz.prog.info? 58).map (·.size) = some PW.length := by rw [← HPW.out]; exact Tryz.size58
    have hj64 : (Tryz.prog.info? 64).map (·.size) = some PW.length := by rw [← HPW.out]; exact Tryz.size64
    go_wp2_with (first
      | (refine wpList_store_row rfl 66 _ _ rfl w6.heap.size UV.toArray rfl rfl 66 ZV.toArray D6.out I66.out D2.out O2.out ?_; rw [HW7.out, HJ.out])
      | refine wpList_load_mid rfl 58 _ rfl H 21 rfl PV _ R7.out Tryz.underlying58 rfl hi58 ?_
      | refine wpList_load_mid rfl 64 _ rfl J 21 rfl PV _ S7.out Tryz.underlying64 rfl hi64 ?_
      | fail)
    refine (CS1.out w7).mono ?_
    rintro ev w8 ⟨rfl, hb8⟩
    have BX8 : Hid (Bk H TV 60 w8) := BX7.out.below hb8
    have BY8 : Hid (Bk J UV 66 w8) := BY7.out.below hb8
    have PA8 : Hid (Pa w8 pa pc T.ids) := PA7.out.below hb8
    have QA8 : Hid (Pa w8 qa qc T.ids) := QA7.out.below hb8
    have HB8 : Hid (Below G w w8) := HB7.out.trans (hb8.mono (by have := BX7.out.lt; omega))
    clear hb8 hz60 hz66
    have R8 : Hid (w8.rangeAt H 25 PW) := hid (by rw [← HPW.out]; exact (XC.out _ BX8.out).co)
    have S8 : Hid (w8.rangeAt J 25 PW) := hid (by rw [← HPW.out]; exact (YC.out _ BY8.out).co)
    go_wp2_with (first
      | refine wpList_load_mid rfl 58 _ rfl H 25 rfl PW _ R8.out Tryz.underlying58 rfl hj58 ?_
      | refine wpList_load_mid rfl 64 _ rfl J 25 rfl PW _ S8.out Tryz.underlying64 rfl hj64 ?_
      | fail)
    refine (CS2.out w8).mono ?_
    rintro ev w9 ⟨rfl, hb9⟩
    have BX9 : Hid (Bk H TV 60 w9) := BX8.out.below hb9
    have BY9 : Hid (Bk J UV 66 w9) := BY8.out.below hb9
    have PA9 : Hid (Pa w9 pa pc T.ids) := PA8.out.below hb9
    have QA9 : Hid (Pa w9 qa qc T.ids) := QA8.out.below hb9
    have HB9 : Hid (Below G w w9) := HB8.out.trans (hb9.mono (by have := BX8.out.lt; omega))
    clear hb9
    obtain ⟨RF, HRF⟩ : ∃ R : List Value, Hid (row .u8 T.tree = R) := ⟨_, rfl⟩
    have hsm : ∀ w : World, (Op.equalIn 10000 32 (.agg RF.toArray) (.agg RF.toArray)).run Tryz.prog w = .ok true w := fun w => by rw [← HRF.out]; exact same25 T.tree HWT.out.1.1 w
    have hi32 : (Tryz.prog.info? 32).map (·.size) = some RF.length := by rw [← HRF.out, row_len, HWT.out.1.1]; exact Tryz.size32
    have hi31 : (Tryz.prog.info? 31).map (·.size) = some RF.length := by rw [← HRF.out, row_len, HWT.out.1.1]; exact Tryz.size31
    obtain ⟨M, HMM⟩ : ∃ S : ByteArray, Hid (⟨T.msg.toArray⟩ = S) := ⟨_, rfl⟩
    obtain ⟨k, HK⟩ : ∃ k, Hid (T.ids.length = k) := ⟨_, rfl⟩
    have hk8 : k ≤ 8 := by rw [← HK.out]; exact HOK.out.1
    have QH : Hid (w9.rangeAt H 0 RF) := hid (by rw [← HRF.out]; exact (XC.out _ BX9.out).id)
    have QJ : Hid (w9.rangeAt J 0 RF) := hid (by rw [← HRF.out]; exact (YC.out _ BY9.out).id)
    have x20 : w9.cell? ⟨H, 20, none⟩ = some (.slice pa k pc) := by rw [← HK.out]; exact (XC.out _ BX9.out).c20
    have y20 : w9.cell? ⟨J, 20, none⟩ = some (.slice qa k qc) := by rw [← HK.out]; exact (YC.out _ BY9.out).c20
    have x29 : w9.cell? ⟨H, 29, none⟩ = some (.string M) := by rw [← HMM.out]; exact (XC.out _ BX9.out).c29
    have y29 : w9.cell? ⟨J, 29, none⟩ = some (.string M) := by rw [← HMM.out]; exact (YC.out _ BY9.out).c29
    go_wp2_with (first
      | (refine BigFrame.wpList_want (by rfl) (fun K hK => ?_); refine wp_load_mid 32 _ rfl H 0 rfl RF _ QH.out Tryz.underlying32 rfl hi32 ?_; refine hK _ _ ?_; clear hK K)
      | (refine BigFrame.wpList_want (by rfl) (fun K hK => ?_); refine wp_load_mid 31 _ rfl J 0 rfl RF _ QJ.out Tryz.underlying31 rfl hi31 ?_; refine hK _ _ ?_; clear hK K)
      | fail)
    clear x20 y20 x29 y29 hsm
    go_loopg [12] k (fun g iv wr => ∃ i : Nat, i ≤ k ∧ g = k - i ∧ iv = .int .i64 i ∧ Hid (Below G w wr) ∧ Hid (Bk H TV 60 wr) ∧ Hid (Bk J UV 66 wr) ∧ Hid (Pa wr pa pc T.ids) ∧ Hid (Pa wr qa qc T.ids))
    case atStart => exact ⟨0, Nat.zero_le _, rfl, rfl, HB9, BX9, BY9, PA9, QA9⟩
    case round =>
      obtain ⟨i, hi, hk, rfl, HBr, BXr, BYr, PAr, QAr⟩ := hrel
      have x20 : wr.cell? ⟨H, 20, none⟩ = some (.slice pa k pc) := by rw [← HK.out]; exact (XC.out _ BXr.out).c20
      by_cases hlt : i < k
      · have hlti : (i : Int) < (k : Int) := by omega
        have hi0 : ¬ (i : Int) < 0 := by omega
        obtain ⟨b, off, hae, hbl, hat⟩ := PAr.out.at_ (by rw [HK.out]; omega)
        obtain ⟨b2, off2, hae2, hbl2, hat2⟩ := QAr.out.at_ (by rw [HK.out]; omega)
        obtain ⟨x, HX⟩ : ∃ x, Hid (T.ids.getD i [] = x) := ⟨_, rfl⟩
        have hxm : x ∈ T.ids := by
          rw [← HX.out, List.getD_eq_getElem?_getD, List.getElem?_eq_getElem (by rw [HK.out]; exact hlt)]
          exact List.getElem_mem _
        have hx20 := (HWT.out.2 x hxm).1
        obtain ⟨Rk, HRK⟩ : ∃ R : List Value, Hid (row .u8 x = R) := ⟨_, rfl⟩
        have hi32k : (Tryz.prog.info? 32).map (·.size) = some Rk.length := by rw [← HRK.out, row_len, hx20]; exact Tryz.size32
        have hi31k : (Tryz.prog.info? 31).map (·.size) = some Rk.length := by rw [← HRK.out, row_len, hx20]; exact Tryz.size31
        have hsk : ∀ w : World, (Op.equalIn 10000 32 (.agg Rk.toArray) (.agg Rk.toArray)).run Tryz.prog w = .ok true w := fun w => by rw [← HRK.out]; exact same25 x hx20 w
        have QTd : Hid (QT H J b off b2 off2 k pc qc i Rk wr.drew) := hid (by
          refine ⟨?_, ?_, ?_, ?_⟩
          · rw [← HK.out, ← hae]; exact (XC.out _ BXr.out).c20
          · rw [← HK.out, ← hae2]; exact (YC.out _ BYr.out).c20
          · rw [← HRK.out, ← HX.out]; exact hat i (by rw [HK.out]; exact hlt)
          · rw [← HRK.out, ← HX.out]; exact hat2 i (by rw [HK.out]; exact hlt))
        have HBd : Hid (Below G w wr.drew) := hid ⟨HBr.out.os, HBr.out.tape, HBr.out.output, HBr.out.size, HBr.out.block⟩
        have BXd : Hid (Bk H TV 60 wr.drew) := ⟨BXr.out.box⟩
        have BYd : Hid (Bk J UV 66 wr.drew) := ⟨BYr.out.box⟩
        have PAd : Hid (Pa wr.drew pa pc T.ids) := PAr.out.below ⟨rfl, rfl, rfl, Nat.le_refl _, fun _ _ => rfl⟩
        have QAd : Hid (Pa wr.drew qa qc T.ids) := QAr.out.below ⟨rfl, rfl, rfl, Nat.le_refl _, fun _ _ => rfl⟩
        clear hat hat2 hae hae2 hxm hx20
        go_wp2_with fail
        clear x20
        refine wp_region_held_drew (S := QT H J b off b2 off2 k pc qc i Rk) (by kernel_rfl) (by exact QTd.out) (fun hHeld => ?_)
        generalize wr.drew = u0 at hHeld QTd HBd BXd BYd PAd QAd ⊢
        refine takeL (i := 0) (v := ?_) rfl (by kernel_rfl) (by kernel_rfl) (by kernel_rfl) (fun _ _ _ h => h) (Or.inl ⟨by rfl, ?_⟩) hHeld ?_
        rotate_left
        · rintro w' ⟨x20, y20, rk, ri⟩; go_simp; rfl
        try simp only [Act.put, List.setIfInBounds_toArray, List.set_cons_zero, List.set_cons_succ]
        refine takeL (i := 1) (v := ?_) rfl (by kernel_rfl) (by kernel_rfl) (by kernel_rfl) (fun _ _ _ h => h) (Or.inl ⟨by rfl, ?_⟩) hHeld ?_
        rotate_left
        · rintro w' ⟨x20, y20, rk, ri⟩; go_simp; rfl
        try simp only [Act.put, List.setIfInBounds_toArray, List.set_cons_zero, List.set_cons_succ]
        refine takeL (i := 2) (v := ?_) rfl (by kernel_rfl) (by kernel_rfl) (by kernel_rfl) (fun _ _ _ h => h) (Or.inl ⟨by rfl, ?_⟩) hHeld ?_
        rotate_left
        · rintro w' ⟨x20, y20, rk, ri⟩; go_simp; rfl
        try simp only [Act.put, List.setIfInBounds_toArray, List.set_cons_zero, List.set_cons_succ]
        refine takeL (i := 3) (v := ?_) rfl (by kernel_rfl) (by kernel_rfl) (by kernel_rfl) (fun _ _ _ h => h) (Or.inl ⟨by rfl, ?_⟩) hHeld ?_
        rotate_left
        · rintro w' ⟨x20, y20, rk, ri⟩; go_simp; rfl
        try simp only [Act.put, List.setIfInBounds_toArray, List.set_cons_zero, List.set_cons_succ]
        refine takeL (i := 4) (v := .agg Rk.toArray) rfl (by kernel_rfl) (by kernel_rfl) (by kernel_rfl) (fun _ _ _ h => h) (yieldsIf_load_mid (by rfl) 32 _ rfl b (off + i * 20) (by rfl) Rk _ (fun w' h => h.rk) Tryz.underlying32 rfl hi32k) hHeld ?_
        try simp only [Act.put, List.setIfInBounds_toArray, List.set_cons_zero, List.set_cons_succ]
        refine takeL (i := 5) (v := ?_) rfl (by kernel_rfl) (by kernel_rfl) (by kernel_rfl) (fun _ _ _ h => h) (Or.inl ⟨by rfl, ?_⟩) hHeld ?_
        rotate_left
        · rintro w' ⟨x20, y20, rk, ri⟩; go_simp; rfl
        try simp only [Act.put, List.setIfInBounds_toArray, List.set_cons_zero, List.set_cons_succ]
        refine takeL (i := 6) (v := ?_) rfl (by kernel_rfl) (by kernel_rfl) (by kernel_rfl) (fun _ _ _ h => h) (Or.inl ⟨by rfl, ?_⟩) hHeld ?_
        rotate_left
        · rintro w' ⟨x20, y20, rk, ri⟩; go_simp; rfl
        try simp only [Act.put, List.setIfInBounds_toArray, List.set_cons_zero, List.set_cons_succ]
        refine takeL (i := 7) (v := ?_) rfl (by kernel_rfl) (by kernel_rfl) (by kernel_rfl) (fun _ _ _ h => h) (Or.inl ⟨by rfl, ?_⟩) hHeld ?_
        rotate_left
        · rintro w' ⟨x20, y20, rk, ri⟩; go_simp; rfl
        try simp only [Act.put, List.setIfInBounds_toArray, List.set_cons_zero, List.set_cons_succ]
        refine takeL (i := 8) (v := ?_) rfl (by kernel_rfl) (by kernel_rfl) (by kernel_rfl) (fun _ _ _ h => h) (Or.inl ⟨by rfl, ?_⟩) hHeld ?_
        rotate_left
        · rintro w' ⟨x20, y20, rk, ri⟩; go_simp; rfl
        try simp only [Act.put, List.setIfInBounds_toArray, List.set_cons_zero, List.set_cons_succ]
        refine takeL (i := 9) (v := .agg Rk.toArray) rfl (by kernel_rfl) (by kernel_rfl) (by kernel_rfl) (fun _ _ _ h => h) (yieldsIf_load_mid (by rfl) 31 _ rfl b2 (off2 + i * 20) (by rfl) Rk _ (fun w' h => h.ri) Tryz.underlying31 rfl hi31k) hHeld ?_
        try simp only [Act.put, List.setIfInBounds_toArray, List.set_cons_zero, List.set_cons_succ]
        refine takeL (i := 10) (v := ?_) rfl (by kernel_rfl) (by kernel_rfl) (by kernel_rfl) (fun _ _ _ h => h) (Or.inl ⟨by rfl, ?_⟩) hHeld ?_
        rotate_left
        · rintro w' ⟨x20, y20, rk, ri⟩; go_simp; rfl
        try simp only [Act.put, List.setIfInBounds_toArray, List.set_cons_zero, List.set_cons_succ]
        refine wpAnyH_done (by kernel_rfl) ?_ _
        clear hHeld
        go_wp2
        go_roundg (k - (i + 1))
        case measure => omega
        case rel => exact ⟨i + 1, by omega, rfl, by go_num, HBd, BXd, BYd, PAd, QAd⟩
      · have hlti : ¬ (i : Int) < (k : Int) := by omega
        go_wp2
        go_ret
        exact ⟨rfl, HBr.out⟩
  · have HTG : Hid (TC l T) := htg
    have HNO : Hid (¬ (okC T ∧ cmB T = l)) := hno
    have hb2s := hb2.size
    clear htg hno
    obtain ⟨YV, HY⟩ : ∃ l : List Value, Hid (cmV (cm0 z20) none 0 = l) := ⟨_, rfl⟩
    rw [HY.out]
    have HYL : Hid (YV.length = 30) := hid (by rw [← HY.out]; exact cmV_len _ _ _ rfl)
    have I60 : Hid ((Tryz.prog.info? 60).map (·.size) = some YV.toArray.size) := hid (by rw [List.size_toArray, HYL.out]; exact Tryz.size60)
    have O1 : Hid (YV.toArray.all (·.oneCell') = true) := hid (by rw [← HY.out]; exact all_oneCell_toArray (cmV_one _ _ _))
    have D0 : Hid ((w2.alloc (.cells ZV.toArray 60)).heap[w2.heap.size]? = some (.cells ZV.toArray 60 (0, 0))) := heap_alloc_new w2 _
    have D1 : Hid (ZV.toArray.size = YV.toArray.size) := hid (by rw [List.size_toArray, List.size_toArray, HZL.out, HYL.out])
    obtain ⟨w3, HW3⟩ : ∃ w3, Hid ((w2.alloc (.cells ZV.toArray 60)).setRow w2.heap.size YV.toArray = w3) := ⟨_, rfl⟩
    obtain ⟨H, HH⟩ : ∃ H, Hid (w2.heap.size = H) := ⟨_, rfl⟩
    have hGH : G < H := by rw [← HH.out]; omega
    have hb23 : Below w2.heap.size w2 w3 := by rw [← HW3.out]; exact below_setRow ((Below.refl _ w2).alloc (Nat.le_refl _) _) (Nat.le_refl _) _
    have hb3 : Below w1.heap.size w1 w3 := hb2.trans (hb23.mono hb2.size)
    have BX3 : Hid (Bk H YV 60 w3) := ⟨by rw [← HW3.out, ← HH.out]; exact setRow_heap _ _ _ YV.toArray _ _ D0.out⟩
    have HB3 : Hid (Below G w w3) := HB1.out.trans (hb3.mono (by omega))
    have HR3 : Hid (Room w3 G zs) := HR1.out.below hb3
    clear hb2 hb3 hb23
    go_wp2_with (first
      | (refine wpList_store_row rfl 60 _ _ rfl w2.heap.size YV.toArray rfl rfl 60 ZV.toArray D0.out I60.out D1.out O1.out ?_; rw [HW3.out, HH.out])
      | fail)
    refine (HTE.out w3 HB3.out).mono ?_
    rintro ev w4 ⟨rfl, hb4⟩
    have HB4 : Hid (Below G w w4) := HB3.out.trans (hb4.mono (by have := BX3.out.lt; omega))
    have HR4 : Hid (Room w4 G zs) := HR3.out.below hb4
    have BX4 : Hid (Bk H YV 60 w4) := BX3.out.below hb4
    clear hb4
    go_wp2_with fail
    refine (HST.out w4 HB4.out HR4.out).mono ?_
    rintro ev w5 ⟨rfl, hg5⟩
    have HB5 : Hid (Below G w w5) := HB4.out.grown hg5 (Nat.le_of_lt HR4.out.lt) (fun k hk => by cases hk; exact Nat.le_refl _)
    have BX5 : Hid (Bk H YV 60 w5) := BX4.out.grown hg5 (by omega)
    clear hg5
    go_wp2_with fail
    refine (HRR.out w5 HB5.out).mono ?_
    rintro ev w6 ⟨hb6, t, qa, qc, b, rfl, hwf, hoe, h1, h2⟩
    have hbf : b = false := by
      cases b with
      | false => rfl
      | true =>
        obtain ⟨g1, g2⟩ := h1 rfl
        have htT := cm_back t T hwf g1 (by rw [g2]; exact HTG.out)
        subst htT
        exact absurd ⟨g1, g2⟩ HNO.out
    subst hbf
    obtain ⟨TV, HTV⟩ : ∃ l : List Value, Hid (cmV t qa qc = l) := ⟨_, rfl⟩
    have HVL : Hid (TV.length = 30) := hid (by rw [← HTV.out]; exact cmV_len t qa qc hwf.1.1)
    have I66 : Hid ((Tryz.prog.info? 66).map (·.size) = some TV.toArray.size) := hid (by rw [List.size_toArray, HVL.out]; exact Tryz.size66)
    have O2 : Hid (TV.toArray.all (·.oneCell') = true) := hid (by rw [← HTV.out]; exact all_oneCell_toArray (cmV_one t qa qc))
    have D2 : Hid (ZV.toArray.size = TV.toArray.size) := hid (by rw [List.size_toArray, List.size_toArray, HZL.out, HVL.out])
    clear h1 h2 hwf hoe
    have BX6 : Hid (Bk H YV 60 w6) := BX5.out.below hb6
    obtain ⟨w7, HW7⟩ : ∃ w7, Hid ((w6.alloc (.cells ZV.toArray 66)).setRow w6.heap.size TV.toArray = w7) := ⟨_, rfl⟩
    obtain ⟨J, HJ⟩ : ∃ J, Hid (w6.heap.size = J) := ⟨_, rfl⟩
    have D6 : Hid ((w6.alloc (.cells ZV.toArray 66)).heap[w6.heap.size]? = some (.cells ZV.toArray 66 (0, 0))) := heap_alloc_new w6 _
    have hb67 : Below w6.heap.size w6 w7 := by rw [← HW7.out]; exact below_setRow ((Below.refl _ w6).alloc (Nat.le_refl _) _) (Nat.le_refl _) _
    have BX7 : Hid (Bk H YV 60 w7) := BX6.out.below hb67
    have HB7 : Hid (Below G w w7) := HB5.out.trans ((hb6.trans (hb67.mono hb6.size)).mono (Nat.le_of_lt (by have := BX5.out.lt; omega)))
    clear hb6 hb67
    rw [HTV.out]
    obtain ⟨RZ, HRZ⟩ : ∃ R : List Value, Hid (row .u8 z20 = R) := ⟨_, rfl⟩
    have XC := BX7.out.cells HY.out rfl
    have x20 : w7.cell? ⟨H, 20, none⟩ = some (.slice none 0 0) := XC.c20
    have x29 : w7.cell? ⟨H, 29, none⟩ = some (.string ⟨#[]⟩) := XC.c29
    have QH : Hid (w7.rangeAt H 0 RZ) := hid (by rw [← HRZ.out]; exact XC.id)
    have hi32 : (Tryz.prog.info? 32).map (·.size) = some RZ.length := by rw [← HRZ.out]; exact Tryz.size32
    have hsz : ∀ w : World, (Op.equalIn 10000 32 (.agg RZ.toArray) (.agg #[.int .u8 0, .int .u8 0, .int .u8 0, .int .u8 0, .int .u8 0, .int .u8 0, .int .u8 0, .int .u8 0, .int .u8 0, .int .u8 0, .int .u8 0, .int .u8 0, .int .u8 0, .int .u8 0, .int .u8 0, .int .u8 0, .int .u8 0, .int .u8 0, .int .u8 0, .int .u8 0])).run Tryz.prog w = .ok true w := fun w => by rw [← HRZ.out]; exact same25 z20 rfl w
    clear XC
    go_wp2_with (first
      | (refine wpList_store_row rfl 66 _ _ rfl w6.heap.size TV.toArray rfl rfl 66 ZV.toArray D6.out I66.out D2.out O2.out ?_; rw [HW7.out, HJ.out])
      | (refine BigFrame.wpList_want (by rfl) (fun K hK => ?_); refine wp_load_mid 32 _ rfl H 0 rfl RZ _ QH.out Tryz.underlying32 rfl hi32 ?_; refine hK _ _ ?_; clear hK K)
      | fail)
    go_ret
    exact ⟨rfl, HB7.out⟩
end Go.Proofs.YtbpdielmdhhdfaaGreatDoor
namespace Go.Proofs.YtbpdielmdhhdfaaGreatDoor
open Go.RowKit
set_option linter.unusedVariables false
set_option linter.unusedSimpArgs false
def WrC (c : Cm) (X : List Int) (er : Int) : Prop := (okC c ∧ X = nums (cmB c) ∧ er = 0) ∨ (¬ okC c ∧ X = [] ∧ er = 22)
theorem wrc_some (c : Cm) : ∃ X er, WrC c X er := by
  by_cases h : okC c
  · exact ⟨_, _, .inl ⟨h, rfl, rfl⟩⟩
  · exact ⟨_, _, .inr ⟨h, rfl, rfl⟩⟩
theorem writeC_x (c : Cm) (hf : WfC c) (a : Option Addr) (cap : Nat) (X : List Int) (er : Int) (hX : WrC c X er) (h4 : c.msg.length ≤ 1000000) (w : World) (ht : Tab w) (hP : Pa w a cap c.ids) :
    Calls Tryz.prog 22 #[.agg (cmV c a cap).toArray] w fun e w' => Below w.heap.size w w' ∧ ∃ ax cx, e = .returned (.tuple #[.slice ax X.length cx, errV er]) ∧ Sl w' ax cx X := by
  refine (writeCommit_any c hf a cap h4 w ht hP).mono ?_
  rintro e w' ⟨hb, hor⟩
  refine ⟨hb, ?_⟩
  rcases hX with ⟨hok, rfl, rfl⟩ | ⟨hno, rfl, rfl⟩
  · rcases hor with ⟨_, g, cap, rfl, _, hmk⟩ | ⟨hno, _⟩
    · exact ⟨some ⟨g, 0, none⟩, cap, by rw [nums_len]; rfl, hmk.sl⟩
    · exact absurd hok hno
  · rcases hor with ⟨hok, _⟩ | ⟨_, rfl⟩
    · exact absurd hok hno
    · exact ⟨none, 0, rfl, sl_none w'⟩
theorem writeCR_x (c : Cm) (hf : WfC c) (a : Option Addr) (cap : Nat) (X : List Int) (er : Int) (hX : WrC c X er) (w : World) (hP : Pa w a cap c.ids) :
    Calls Tryz.prog 24 #[.agg (cmV c a cap).toArray] w fun e w' => Below w.heap.size w w' ∧ ∃ ax cx, e = .returned (.tuple #[.slice ax X.length cx, .int .i64 er]) ∧ Sl w' ax cx X := by
  refine (writeCommitR_any c hf a cap w hP).mono ?_
  rintro e w' ⟨hb, hor⟩
  refine ⟨hb, ?_⟩
  rcases hX with ⟨hok, rfl, rfl⟩ | ⟨hno, rfl, rfl⟩
  · rcases hor with ⟨_, g, cap, rfl, _, hmk⟩ | ⟨hno, _⟩
    · exact ⟨some ⟨g, 0, none⟩, cap, by rw [nums_len], hmk.sl⟩
    · exact absurd hok hno
  · rcases hor with ⟨hok, _⟩ | ⟨_, rfl⟩
    · exact absurd hok hno
    · exact ⟨none, 0, rfl, sl_none w'⟩
theorem cmB_len (c : Cm) (hf : WfC c) (h : okC c) : (cmB c).length ≤ 200000 := by
  have h1 := lines_short c hf h
  have h3 : c.msg.length ≤ 2000 := by
    have := h.2.2.2.2
    unfold isMsg at this
    rw [Bool.and_eq_true] at this
    exact of_decide_eq_true this.1
  rw [← lines_all c, List.length_append, List.length_cons]
  omega
set_option maxRecDepth 20000 in
set_option maxHeartbeats 4000000 in
theorem walkC_long (c : Cm) (hf : WfC c) (pa : Option Addr) (pc : Nat) (a : Option Addr) (len cap : Nat) (w : World) (h : 20000 < c.msg.length + len + c.au.name.length + c.co.name.length ∨ 100 < c.ids.length) (b1 : c.msg.length ≤ 200000000000000) (b2 : len ≤ 200000000000000) (b3 : c.au.name.length ≤ 200000000000000) (b4 : c.co.name.length ≤ 200000000000000) :
    Calls Tryz.prog 5 #[.agg (cmV c pa pc).toArray, .slice a len cap] w fun e w' => e = .returned (.bool true) ∧ Below w.heap.size w w' := by
  obtain ⟨N, HNN⟩ : ∃ S : ByteArray, Hid (⟨c.au.name.toArray⟩ = S) := ⟨_, rfl⟩
  obtain ⟨M, HMM⟩ : ∃ S : ByteArray, Hid (⟨c.msg.toArray⟩ = S) := ⟨_, rfl⟩
  obtain ⟨P, HPP⟩ : ∃ S : ByteArray, Hid (⟨c.co.name.toArray⟩ = S) := ⟨_, rfl⟩
  obtain ⟨n1, Hn1⟩ : ∃ n, Hid (c.au.name.length = n) := ⟨_, rfl⟩
  obtain ⟨m1, Hm1⟩ : ∃ n, Hid (c.msg.length = n) := ⟨_, rfl⟩
  obtain ⟨p1, Hp1⟩ : ∃ n, Hid (c.co.name.length = n) := ⟨_, rfl⟩
  obtain ⟨k1, Hk1⟩ : ∃ n, Hid (c.ids.length = n) := ⟨_, rfl⟩
  have sN : N.size = n1 := by rw [← HNN.out, txt_len]; exact Hn1.out
  have sM : M.size = m1 := by rw [← HMM.out, txt_len]; exact Hm1.out
  have sP : P.size = p1 := by rw [← HPP.out, txt_len]; exact Hp1.out
  rw [Hn1.out, Hm1.out, Hp1.out, Hk1.out] at h
  rw [Hm1.out] at b1
  rw [Hn1.out] at b3
  rw [Hp1.out] at b4
  obtain ⟨TV, HTV⟩ : ∃ l : List Value, Hid (cmV c pa pc = l) := ⟨_, rfl⟩
  have hvl : TV.length = 30 := by rw [← HTV.out]; exact cmV_len c pa pc hf.1.1
  have hA29 : TV[29]'(by omega) = .string M := get_ofV (by rw [← HTV.out, ← HMM.out]; exact cmV_at c pa pc hf.1.1 9) _
  have hA21 : TV[21]'(by omega) = .string N := get_ofV (by rw [← HTV.out, ← HNN.out]; exact cmV_at c pa pc hf.1.1 1) _
  have hA25 : TV[25]'(by omega) = .string P := get_ofV (by rw [← HTV.out, ← HPP.out]; exact cmV_at c pa pc hf.1.1 5) _
  have hA20 : TV[20]'(by omega) = .slice pa k1 pc := get_ofV (by rw [← HTV.out, ← Hk1.out]; exact cmV_at c pa pc hf.1.1 0) _
  have HB : Hid (∀ o, Below w.heap.size w (w.alloc o)) := fun o => (Below.refl _ w).alloc (Nat.le_refl _) _
  rw [HTV.out]
  by_cases hs : 20000 < m1 + len + n1 + p1
  · have hci : (20000 : Int) < (m1 : Int) + len + n1 + p1 := by omega
    go_enter Tryz.func5, Tryz.ntmps5
    go_wp2
    go_ret
    exact ⟨rfl, HB.out _⟩
  · have hci : ¬ (20000 : Int) < (m1 : Int) + len + n1 + p1 := by omega
    have hki : (100 : Int) < (k1 : Int) := by omega
    go_enter Tryz.func5, Tryz.ntmps5
    go_wp2
    go_ret
    exact ⟨rfl, HB.out _⟩
set_option maxRecDepth 20000 in
set_option maxHeartbeats 4000000 in
theorem walkC_short (c : Cm) (hf : WfC c) (pa : Option Addr) (pc : Nat) (a : Option Addr) (cap : Nat) (ys : List Int) (w : World) (h : c.msg.length + ys.length + c.au.name.length + c.co.name.length ≤ 20000) (hk : c.ids.length ≤ 100) (hP : Pa w pa pc c.ids) (hy : IsB ys) (hS : Sl w a cap ys) (hw : Lw w) (he : Ers w) :
    Calls Tryz.prog 5 #[.agg (cmV c pa pc).toArray, .slice a ys.length cap] w fun e w' => e = .returned (.bool true) ∧ Below w.heap.size w w' := by
  obtain ⟨X, er, hX⟩ := wrc_some c
  have HX : Hid (WrC c X er) := hX
  have HXB : Hid (IsB X) := hid (by
    rcases hX with ⟨_, rfl, _⟩ | ⟨_, rfl, _⟩
    · exact nums_isB _
    · intro x hx; cases hx)
  have HXL2 : Hid (X.length ≤ 200000) := hid (by
    rcases hX with ⟨hok, rfl, _⟩ | ⟨_, rfl, _⟩
    · rw [nums_len]; exact cmB_len c hf hok
    · exact Nat.zero_le _)
  obtain ⟨xl, HXL⟩ : ∃ xl, Hid (X.length = xl) := ⟨_, rfl⟩
  have HX0 : Hid (er ≠ 0 → xl = 0) := hid (by
    rw [← HXL.out]
    rcases hX with ⟨_, _, rfl⟩ | ⟨_, rfl, _⟩
    · intro h; exact absurd rfl h
    · intro _; rfl)
  have h4m : c.msg.length ≤ 1000000 := by omega
  clear hX
  obtain ⟨N, HNN⟩ : ∃ S : ByteArray, Hid (⟨c.au.name.toArray⟩ = S) := ⟨_, rfl⟩
  obtain ⟨M, HMM⟩ : ∃ S : ByteArray, Hid (⟨c.msg.toArray⟩ = S) := ⟨_, rfl⟩
  obtain ⟨P, HPP⟩ : ∃ S : ByteArray, Hid (⟨c.co.name.toArray⟩ = S) := ⟨_, rfl⟩
  obtain ⟨n1, Hn1⟩ : ∃ n, Hid (c.au.name.length = n) := ⟨_, rfl⟩
  obtain ⟨m1, Hm1⟩ : ∃ n, Hid (c.msg.length = n) := ⟨_, rfl⟩
  obtain ⟨p1, Hp1⟩ : ∃ n, Hid (c.co.name.length = n) := ⟨_, rfl⟩
  obtain ⟨k1, Hk1⟩ : ∃ n, Hid (c.ids.length = n) := ⟨_, rfl⟩
  obtain ⟨yl, HYL⟩ : ∃ n, Hid (ys.length = n) := ⟨_, rfl⟩
  have sN : N.size = n1 := by rw [← HNN.out, txt_len]; exact Hn1.out
  have sM : M.size = m1 := by rw [← HMM.out, txt_len]; exact Hm1.out
  have sP : P.size = p1 := by rw [← HPP.out, txt_len]; exact Hp1.out
  rw [Hn1.out, Hm1.out, Hp1.out, HYL.out] at h
  have hci : ¬ (20000 : Int) < (m1 : Int) + yl + n1 + p1 := by omega
  have hki : ¬ (100 : Int) < (k1 : Int) := by have := Hk1.out; omega
  obtain ⟨TV, HTV⟩ : ∃ l : List Value, Hid (cmV c pa pc = l) := ⟨_, rfl⟩
  have hvl : TV.length = 30 := by rw [← HTV.out]; exact cmV_len c pa pc hf.1.1
  have hA29 : TV[29]'(by omega) = .string M := get_ofV (by rw [← HTV.out, ← HMM.out]; exact cmV_at c pa pc hf.1.1 9) _
  have hA21 : TV[21]'(by omega) = .string N := get_ofV (by rw [← HTV.out, ← HNN.out]; exact cmV_at c pa pc hf.1.1 1) _
  have hA25 : TV[25]'(by omega) = .string P := get_ofV (by rw [← HTV.out, ← HPP.out]; exact cmV_at c pa pc hf.1.1 5) _
  have hA20 : TV[20]'(by omega) = .slice pa k1 pc := get_ofV (by rw [← HTV.out, ← Hk1.out]; exact cmV_at c pa pc hf.1.1 0) _
  obtain ⟨G, HG⟩ : ∃ G, Hid (w.heap.size = G) := ⟨_, rfl⟩
  obtain ⟨w0, HW0⟩ : ∃ w0, Hid (w.alloc (.cells TV.toArray 60) = w0) := ⟨_, rfl⟩
  have HB0 : Hid (Below G w w0) := hid (by rw [← HW0.out, ← HG.out]; exact (Below.refl _ w).alloc (Nat.le_refl _) _)
  have BG0 : Hid (Bk G TV 60 w0) := ⟨by rw [← HW0.out, ← HG.out]; exact heap_alloc_new w _⟩
  have HLW : Hid (∀ W, Below G w W → Lw W) := fun W hW => hw.below (by rw [HG.out]; exact hW)
  have HER : Hid (∀ W, Below G w W → Ers W) := fun W hW => he.below (by rw [HG.out]; exact hW)
  have HSY : Hid (∀ W, Below G w W → Sl W a cap ys) := fun W hW => hS.below (by rw [HG.out]; exact hW)
  have HPA : Hid (∀ W, Below G w W → Pa W pa pc c.ids) := fun W hW => hP.below (by rw [HG.out]; exact hW)
  have CL : Hid ((w.alloc (.cells TV.toArray 60)).rangeAt w.heap.size 0 TV) := hid (range_row (heap_alloc_new w _))
  have hi60 : (Tryz.prog.info? 60).map (·.size) = some TV.length := by rw [hvl]; exact Tryz.size60
  have C22 : Hid (Calls Tryz.prog 22 #[.agg TV.toArray] w0 fun e w' => Below w0.heap.size w0 w' ∧ ∃ ax cx, e = .returned (.tuple #[.slice ax xl cx, errV er]) ∧ Sl w' ax cx X) := hid (by
    rw [← HTV.out, ← HXL.out]
    exact writeC_x c hf pa pc X er HX.out h4m w0 (HLW.out _ HB0.out).tab (HPA.out _ HB0.out))
  have C23 : Hid (∀ W, Below G w W → Calls Tryz.prog 23 #[.agg TV.toArray] W fun e w' => Below W.heap.size W w' ∧ ∃ qa qc, e = .returned (.agg (cmV c qa qc).toArray) ∧ Pa w' qa qc c.ids) := fun W hW => by
    rw [← HTV.out]
    exact commit_any c hf pa pc hk W (HPA.out W hW)
  have HWC : Hid (WfC c) := hf
  have HTE : Hid (∀ W, Below G w W → Calls Tryz.prog 11 #[errV er] W fun e w' => e = .returned (.int .i64 er) ∧ Below W.heap.size W w') := fun W hW => tell_any er W (HLW.out W hW)
  have HRY : Hid (∀ W, Below G w W → Calls Tryz.prog 25 #[.slice a yl cap] W fun e w' => e = .returned (.bool true) ∧ Below W.heap.size W w') := fun W hW => by
    have := readsCommit_any a cap ys W (by rw [HYL.out]; omega) hy (HSY.out W hW) (HLW.out W hW) (HER.out W hW)
    rw [HYL.out] at this
    exact this
  have HRX : Hid (∀ W ax cx, Below G w W → Sl W ax cx X → Calls Tryz.prog 25 #[.slice ax xl cx] W fun e w' => e = .returned (.bool true) ∧ Below W.heap.size W w') := fun W ax cx hW hx => by
    have := readsCommit_any ax cx X W HXL2.out HXB.out hx (HLW.out W hW) (HER.out W hW)
    rw [HXL.out] at this
    exact this
  obtain ⟨ZV, HZ⟩ : ∃ l : List Value, Hid (l = cmV (cm0 z20) none 0) := ⟨_, rfl⟩
  have hz66 : ∀ w : World, (zeroValue 66).run Tryz.prog w = .ok (.agg ZV.toArray) w := fun w => by rw [HZ.out]; exact zero66 w
  have HZL : Hid (ZV.length = 30) := hid (by rw [HZ.out]; exact cmV_len _ _ _ rfl)
  rw [HTV.out, HYL.out]
  clear hS hw he hf hP
  go_enter Tryz.func5, Tryz.ntmps5
  go_wp2_with (first | refine wpList_load_mid rfl 60 _ rfl w.heap.size 0 rfl TV _ CL.out Tryz.underlying60 rfl hi60 ?_ | fail)
  rw [HG.out, HW0.out]
  clear hA29 hA21 hA25 hA20 CL hvl
  refine C22.out.mono ?_
  rintro ev w1 ⟨hb, ax, cx, rfl, hsx⟩
  have HB1 : Hid (Below G w w1) := HB0.out.trans (hb.mono (Nat.le_of_lt BG0.out.lt))
  have BG1 : Hid (Bk G TV 60 w1) := BG0.out.below hb
  have SX1 : Hid (Sl w1 ax cx X) := hsx
  clear hb hsx
  go_wp2_with fail
  refine (HTE.out w1 HB1.out).mono ?_
  rintro ev w2 ⟨rfl, hb⟩
  have HB2 : Hid (Below G w w2) := HB1.out.trans (hb.mono (Nat.le_of_lt BG1.out.lt))
  have BG2 : Hid (Bk G TV 60 w2) := BG1.out.below hb
  have SX2 : Hid (Sl w2 ax cx X) := SX1.out.below hb
  clear hb
  have R2 : Hid (w2.rangeAt G 0 TV) := BG2.out.range
  go_wp2_with (first | refine wpList_load_mid rfl 60 _ rfl G 0 rfl TV _ R2.out Tryz.underlying60 rfl hi60 ?_ | fail)
  refine (C23.out w2 HB2.out).mono ?_
  rintro ev w3 ⟨hb, qa, qc, rfl, hq⟩
  have HB3 : Hid (Below G w w3) := HB2.out.trans (hb.mono (Nat.le_of_lt BG2.out.lt))
  have BG3 : Hid (Bk G TV 60 w3) := BG2.out.below hb
  have SX3 : Hid (Sl w3 ax cx X) := SX2.out.below hb
  have QA3 : Hid (Pa w3 qa qc c.ids) := hq
  clear hb hq
  obtain ⟨UV, HUV⟩ : ∃ l : List Value, Hid (cmV c qa qc = l) := ⟨_, rfl⟩
  rw [HUV.out]
  have HUL : Hid (UV.length = 30) := hid (by rw [← HUV.out]; exact cmV_len c qa qc HWC.out.1.1)
  have hi66 : (Tryz.prog.info? 66).map (·.size) = some UV.length := by rw [HUL.out]; exact Tryz.size66
  have I66 : Hid ((Tryz.prog.info? 66).map (·.size) = some UV.toArray.size) := hid (by rw [List.size_toArray]; exact hi66)
  have O66 : Hid (UV.toArray.all (·.oneCell') = true) := hid (by rw [← HUV.out]; exact all_oneCell_toArray (cmV_one c qa qc))
  have E66 : Hid (ZV.toArray.size = UV.toArray.size) := hid (by rw [List.size_toArray, List.size_toArray, HZL.out, HUL.out])
  have D3 : Hid ((w3.alloc (.cells ZV.toArray 66)).heap[w3.heap.size]? = some (.cells ZV.toArray 66 (0, 0))) := heap_alloc_new w3 _
  obtain ⟨w4, HW4⟩ : ∃ w4, Hid ((w3.alloc (.cells ZV.toArray 66)).setRow w3.heap.size UV.toArray = w4) := ⟨_, rfl⟩
  obtain ⟨Q, HQ⟩ : ∃ K, Hid (w3.heap.size = K) := ⟨_, rfl⟩
  have hb4 : Below w3.heap.size w3 w4 := by rw [← HW4.out]; exact below_setRow ((Below.refl _ w3).alloc (Nat.le_refl _) _) (Nat.le_refl _) _
  have HB4 : Hid (Below G w w4) := HB3.out.trans (hb4.mono (Nat.le_of_lt BG3.out.lt))
  have BG4 : Hid (Bk G TV 60 w4) := BG3.out.below hb4
  have SX4 : Hid (Sl w4 ax cx X) := SX3.out.below hb4
  have QA4 : Hid (Pa w4 qa qc c.ids) := QA3.out.below hb4
  have BQ4 : Hid (Bk Q UV 66 w4) := ⟨by rw [← HW4.out, ← HQ.out]; exact setRow_heap _ _ _ UV.toArray _ _ D3.out⟩
  have QQ : Hid (w4.rangeAt Q 0 UV) := BQ4.out.range
  clear hb4
  have C24 : Hid (Calls Tryz.prog 24 #[.agg UV.toArray] w4 fun e w' => Below w4.heap.size w4 w' ∧ ∃ ax cx, e = .returned (.tuple #[.slice ax xl cx, .int .i64 er]) ∧ Sl w' ax cx X) := hid (by
    rw [← HUV.out, ← HXL.out]
    exact writeCR_x c HWC.out qa qc X er HX.out w4 QA4.out)
  go_wp2_with (first
    | (refine wpList_store_row rfl 66 _ _ rfl w3.heap.size UV.toArray rfl rfl 66 ZV.toArray D3.out I66.out E66.out O66.out ?_; rw [HW4.out, HQ.out])
    | refine wpList_load_mid rfl 66 _ rfl Q 0 rfl UV _ QQ.out Tryz.underlying66 rfl hi66 ?_
    | fail)
  clear hz66
  refine C24.out.mono ?_
  rintro ev w6 ⟨hb, ay, cy, rfl, hsy⟩
  have HB6 : Hid (Below G w w6) := HB4.out.trans (hb.mono (Nat.le_of_lt BG4.out.lt))
  have BG6 : Hid (Bk G TV 60 w6) := BG4.out.below hb
  have SX6 : Hid (Sl w6 ax cx X) := SX4.out.below hb
  have SY6 : Hid (Sl w6 ay cy X) := hsy
  clear hb hsy
  have HSA : Hid (Calls Tryz.prog 16 #[.slice ax xl cx, .slice ay xl cy] w6 fun e w' => e = .returned (.bool true) ∧ ∃ q, w' = w6.drewN q) := hid (by
    have := same_any ax ay cx cy X w6 (Nat.le_trans HXL2.out (by omega)) (fun h0 => by obtain ⟨b, off, e1, _, e3⟩ := SX6.out.at_ h0; exact ⟨b, off, e1, e3⟩) (fun h0 => by obtain ⟨b, off, e1, _, e3⟩ := SY6.out.at_ h0; exact ⟨b, off, e1, e3⟩)
    rw [HXL.out] at this
    exact this)
  go_wp2_with fail
  refine HSA.out.mono ?_
  rintro ev w7 ⟨rfl, q7, hw7⟩
  have hb : Below w6.heap.size w6 w7 := by rw [hw7]; exact below_drewH (Below.refl _ _) _
  clear hw7
  have HB7 : Hid (Below G w w7) := HB6.out.trans (hb.mono (Nat.le_of_lt BG6.out.lt))
  have BG7 : Hid (Bk G TV 60 w7) := BG6.out.below hb
  have SX7 : Hid (Sl w7 ax cx X) := SX6.out.below hb
  clear hb
  go_wp2_with fail
  refine (HRY.out w7 HB7.out).mono ?_
  rintro ev w8 ⟨rfl, hb⟩
  have HB8 : Hid (Below G w w8) := HB7.out.trans (hb.mono (Nat.le_of_lt BG7.out.lt))
  have BG8 : Hid (Bk G TV 60 w8) := BG7.out.below hb
  have SX8 : Hid (Sl w8 ax cx X) := SX7.out.below hb
  clear hb
  by_cases her : er = 0
  · subst her
    go_wp2_with fail
    refine (HRX.out w8 ax cx HB8.out SX8.out).mono ?_
    rintro ev w9 ⟨rfl, hb⟩
    have HB9 : Hid (Below G w w9) := HB8.out.trans (hb.mono (Nat.le_of_lt BG8.out.lt))
    clear hb
    go_wp2
    go_ret
    exact ⟨rfl, by rw [HG.out]; exact HB9.out⟩
  · have her2 : (er == 0) = false := by simpa using her
    have hx0 := HX0.out her
    subst hx0
    go_wp2
    go_ret
    exact ⟨rfl, by rw [HG.out]; exact HB8.out⟩
end Go.Proofs.YtbpdielmdhhdfaaGreatDoor
