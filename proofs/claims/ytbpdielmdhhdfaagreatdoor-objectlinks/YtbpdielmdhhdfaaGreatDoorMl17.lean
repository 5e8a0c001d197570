import Derived.Test.YtbpdielmdhhdfaaGreatDoorMl16
import Derived.Test.YtbpdielmdhhdfaaGreatDoorMl08
import Derived.Test.YtbpdielmdhhdfaaGreatDoorMl13
import Derived.Test.YtbpdielmdhhdfaaGreatDoorMl05
namespace Go.Proofs.YtbpdielmdhhdfaaGreatDoor
open Go.RowKit
set_option linter.unusedVariables false
set_option linter.unusedSimpArgs false
theorem Tryz.results105 : Tryz.f105.results = #[.cell 8 60, .tmp 9] := by kernel_rfl
theorem Tryz.results61 : Tryz.f61.results = #[.cell 2 60, .tmp 3] := by kernel_rfl
theorem TC.msg {l : List UInt8} {T : Cm} (h : TC l T) : T.msg.length ≤ l.length := by
  obtain ⟨_, r, h2, _, _, _, h6⟩ := h
  have r1 := rst_le l
  have r2 := h2.le
  have r3 := rst_le r
  have r4 := rst_le (rst r)
  have r5 := rst_le (rst (rst r))
  rw [h6]
  omega
def PostBC (l : List UInt8) (w : World) (e : Ending) (w' : World) : Prop := ∃ T, TC l T ∧ (((okC T ∧ cmB T = l) ∧ ∃ pa pc, e = .returned (.tuple #[.agg (cmV T pa pc).toArray, .nilIface]) ∧ OI w.heap.size pa pc T.ids w') ∨ (¬ (okC T ∧ cmB T = l) ∧ e = .returned (.tuple #[.agg (cmV (cm0 z20) none 0).toArray, .iface 35 (.int .i64 22)])))
set_option maxRecDepth 20000 in
set_option maxHeartbeats 2000000 in
theorem readBackC_any (a : Option Addr) (cap : Nat) (zs : List Int) (hl : zs.length ≤ 200000) (hz : IsB zs) (w : World) (ht : Tab w) (he : Ers w) (hm : Mx w) (hS : Sl w a cap zs) :
    Calls Tryz.prog 105 #[.slice a zs.length cap, .int .i64 22, .func (.func 106) #[] #[], .func (.func 22) #[] #[]] w fun e w' => Below w.heap.size w w' ∧ PostBC (Lib.bytesOf zs) w e w' := by
  obtain ⟨ZV, HZ⟩ : ∃ l : List Value, Hid (l = cmV (cm0 z20) none 0) := ⟨_, rfl⟩
  have hz60 := zero60
  rw [← HZ.out] at hz60
  have HZL : Hid (ZV.length = 30) := hid (by rw [HZ.out]; exact cmV_len _ _ _ rfl)
  have hi60z : (Tryz.prog.info? 60).map (·.size) = some ZV.length := by rw [HZL.out]; exact Tryz.size60
  have FI : Hid ((Tryz.prog.info? 60).map (·.size) = some ZV.toArray.size) := hid (by rw [List.size_toArray]; exact hi60z)
  have FO : Hid (ZV.toArray.all (·.oneCell') = true) := hid (by rw [HZ.out]; exact all_oneCell_toArray (cmV_one _ _ _))
  obtain ⟨n, HN⟩ : ∃ n, Hid (zs.length = n) := ⟨_, rfl⟩
  obtain ⟨l, HL⟩ : ∃ l, Hid (Lib.bytesOf zs = l) := ⟨_, rfl⟩
  have HLL : Hid (l.length ≤ 200000) := hid (by rw [← HL.out, Lib.bytesOf_length]; exact hl)
  obtain ⟨S, HSS⟩ : ∃ S : ByteArray, Hid (⟨l.toArray⟩ = S) := ⟨_, rfl⟩
  obtain ⟨G, HG⟩ : ∃ G, Hid (w.heap.size = G) := ⟨_, rfl⟩
  obtain ⟨w0, HW0⟩ : ∃ w0, Hid (w.alloc (.cells ZV.toArray 60) = w0) := ⟨_, rfl⟩
  have HB0 : Hid (Below G w w0) := hid (by rw [← HW0.out, ← HG.out]; exact (Below.refl _ w).alloc (Nat.le_refl _) _)
  have HR0 : Hid (w0.heap[G]? = some (.cells ZV.toArray 60 (0, 0))) := hid (by rw [← HW0.out, ← HG.out]; exact heap_alloc_new w _)
  have HCV : Hid ((convert 23 9 (.slice a n cap)).run Tryz.prog (w.alloc (.cells ZV.toArray 60)) = .ok (.string S) (w.alloc (.cells ZV.toArray 60))) := hid (by
    rw [← HSS.out, ← HL.out, ← HN.out]
    exact conv_str (hS.below (by rw [HW0.out, HG.out]; exact HB0.out)))
  have HT : Hid (∀ W, Below G w W → Tab W) := fun W hW => ht.below (by rw [HG.out]; exact hW)
  have HSL : Hid (∀ W, Below G w W → Sl W a cap zs) := fun W hW => hS.below (by rw [HG.out]; exact hW)
  have C1 : Hid (Calls Tryz.prog 106 #[.string S] w0 (PostOC l w0)) := hid (by
    rw [← HSS.out]
    exact commitOf_any l HLL.out w0 (he.below (by rw [HG.out]; exact HB0.out)) (hm.below (by rw [HG.out]; exact HB0.out)))
  rw [HN.out, HL.out]
  clear ht he hm hS
  have hcv := HCV.out
  go_enter Tryz.func105, Tryz.ntmps105
  go_wp2_with fail
  rw [HG.out, HW0.out]
  clear hcv HCV
  refine C1.out.mono ?_
  rintro ev w1 ⟨hb1, T, pa, pc, rfl, htg, hoi⟩
  have HTG : Hid (TC l T) := htg
  have OI1 : Hid (OI w0.heap.size pa pc T.ids w1) := hoi
  have hs0 : G < w0.heap.size := lt_of_some HR0.out
  have HWT : Hid (WfC T) := hid (by obtain ⟨h1, r, h2, _⟩ := htg; exact ⟨⟨h1.1, h1.2.1⟩, h2.wf⟩)
  have HB1 : Hid (Below G w w1) := HB0.out.trans (hb1.mono (Nat.le_of_lt (lt_of_some HR0.out)))
  have HR1 : Hid (w1.heap[G]? = some (.cells ZV.toArray 60 (0, 0))) := hid ((hb1.block G (lt_of_some HR0.out)).trans HR0.out)
  have HID : Hid (T.tree.length = 20) := htg.1.1
  clear htg hb1 hoi
  obtain ⟨TV, HTV⟩ : ∃ l : List Value, Hid (cmV T pa pc = l) := ⟨_, rfl⟩
  rw [HTV.out]
  have HVL : Hid (TV.length = 30) := hid (by rw [← HTV.out]; exact cmV_len T pa pc HID.out)
  have hi60 : (Tryz.prog.info? 60).map (·.size) = some TV.length := by rw [HVL.out]; exact Tryz.size60
  have CI : Hid ((Tryz.prog.info? 60).map (·.size) = some TV.toArray.size) := hid (by rw [List.size_toArray]; exact hi60)
  have CO : Hid (TV.toArray.all (·.oneCell') = true) := hid (by rw [← HTV.out]; exact all_oneCell_toArray (cmV_one T pa pc))
  have D0 : Hid ((w1.alloc (.cells ZV.toArray 60)).heap[w1.heap.size]? = some (.cells ZV.toArray 60 (0, 0))) := heap_alloc_new w1 _
  have D1 : Hid (ZV.toArray.size = TV.toArray.size) := hid (by rw [List.size_toArray, List.size_toArray, HZL.out, HVL.out])
  have D4 : Hid (((w1.alloc (.cells ZV.toArray 60)).setRow w1.heap.size TV.toArray).rangeAt w1.heap.size 0 TV) := hid (range_row (setRow_heap _ _ _ TV.toArray _ _ D0.out))
  go_wp2_with (first
    | refine wpList_store_row rfl 60 _ _ rfl w1.heap.size TV.toArray rfl rfl 60 ZV.toArray D0.out CI.out D1.out CO.out ?_
    | refine wpList_load_mid rfl 60 _ rfl w1.heap.size 0 rfl TV _ D4.out Tryz.underlying60 rfl hi60 ?_
    | fail)
  obtain ⟨H, HH⟩ : ∃ H, Hid (w1.heap.size = H) := ⟨_, rfl⟩
  have HGH : Hid (G < H) := hid (by rw [← HH.out]; exact lt_of_some HR1.out)
  obtain ⟨w2, HW2⟩ : ∃ w2, Hid ((w1.alloc (.cells ZV.toArray 60)).setRow w1.heap.size TV.toArray = w2) := ⟨_, rfl⟩
  have HB2 : Hid (Below G w w2) := hid (by rw [← HW2.out]; exact below_setRow (HB1.out.alloc (by rw [HH.out]; have := HGH.out; omega) _) (by rw [HH.out]; have := HGH.out; omega) _)
  have HR2 : Hid (w2.heap[G]? = some (.cells ZV.toArray 60 (0, 0))) := hid (by
    have hb2 := (Below.refl w1.heap.size w1).alloc (Nat.le_refl _) (.cells ZV.toArray 60)
    rw [← HW2.out, setRow_other _ _ _ _ (by rw [HH.out]; have := HGH.out; omega)]
    exact (hb2.block _ (by rw [HH.out]; exact HGH.out)).trans HR1.out)
  have HV2 : Hid (w2.heap[H]? = some (.cells TV.toArray 60 (0, 0))) := hid (by rw [← HW2.out, ← HH.out]; exact setRow_heap _ _ _ TV.toArray _ _ D0.out)
  rw [HW2.out, HH.out]
  clear hz60
  have hz60 : ∀ w : World, (zeroValue 60).run Tryz.prog w = .ok (.agg ZV.toArray) w := fun w => by rw [HZ.out]; exact zero60 w
  have OI2 : Hid (OI w0.heap.size pa pc T.ids w2) := hid (by
    rw [← HW2.out]
    have hb := below_setRow ((Below.refl w1.heap.size w1).alloc (Nat.le_refl _) (.cells ZV.toArray 60)) (Nat.le_refl _) TV.toArray
    exact OI1.out.keep hb)
  have C2 : Hid (Calls Tryz.prog 22 #[.agg TV.toArray] w2 (PostC T w2)) := hid (by
    rw [← HTV.out]
    have hln := HTG.out.msg
    have h2 := HLL.out
    exact writeCommit_any T HWT.out pa pc (by omega) w2 (HT.out _ HB2.out) (OI2.out.pa HWT.out.2))
  refine C2.out.mono ?_
  rintro ev w3 ⟨hb3, hor⟩
  have HB3 : Hid (Below G w w3) := HB2.out.trans (hb3.mono (Nat.le_of_lt (lt_of_some HR2.out)))
  have HR3 : Hid (w3.heap[G]? = some (.cells ZV.toArray 60 (0, 0))) := hid ((hb3.block G (lt_of_some HR2.out)).trans HR2.out)
  have OI3 : Hid (OI w0.heap.size pa pc T.ids w3) := OI2.out.keep hb3
  have HV3 : Hid (w3.heap[H]? = some (.cells TV.toArray 60 (0, 0))) := hid ((hb3.block H (lt_of_some HV2.out)).trans HV2.out)
  have FL : Hid ((w3.alloc (.cells ZV.toArray 60)).rangeAt w3.heap.size 0 ZV) := hid (range_row (heap_alloc_new w3 _))
  have HR4 : Hid ((w3.alloc (.cells ZV.toArray 60)).heap[G]? = some (.cells ZV.toArray 60 (0, 0))) := hid ((((Below.refl w3.heap.size w3).alloc (Nat.le_refl _) (.cells ZV.toArray 60)).block G (lt_of_some HR3.out)).trans HR3.out)
  have FS : Hid ((w3.alloc (.cells ZV.toArray 60)).there G 0 ZV.toArray.size) := hid (there_off HR4.out 0 (by omega))
  have FS' : Hid ((w3.alloc (.cells ZV.toArray 60)).there G 0 ZV.length) := hid (there_off HR4.out 0 (by rw [List.size_toArray]; omega))
  have BAD : Hid (¬ (okC T ∧ cmB T = l) → (Below w.heap.size w ((w3.alloc (.cells ZV.toArray 60)).setCells G 0 ZV) ∧ PostBC l w (.returned (.tuple #[.agg ZV.toArray, .iface 35 (.int .i64 22)])) ((w3.alloc (.cells ZV.toArray 60)).setCells G 0 ZV))) := fun hno => by
    refine ⟨by rw [HG.out]; exact below_setCells (Nat.le_refl _) _ _ _ _ (HB3.out.alloc (Nat.le_of_lt (lt_of_some HR3.out)) _), T, HTG.out, .inr ⟨hno, ?_⟩⟩
    rw [HZ.out]
  clear hb3
  rcases hor with ⟨hok, g, cp, rfl, hge, hmk⟩ | ⟨hno, rfl⟩
  rotate_left
  · have HNO : Hid (¬ (okC T ∧ cmB T = l)) := fun h => hno h.1
    clear hno
    go_wp2_with (first
      | refine wpList_load_mid rfl 60 _ rfl w3.heap.size 0 rfl ZV _ FL.out Tryz.underlying60 rfl hi60z ?_
      | refine wpList_store_mid rfl 60 _ _ rfl G 0 ZV.toArray rfl rfl FS.out FI.out FO.out ?_)
    refine bodyPost_ret (v := .tuple #[.agg ZV.toArray, .iface 35 (.int .i64 22)]) (results_mid2 Tryz.results105 _ _ G ZV _ rfl (World.rangeAt_setCells_same _ G 0 _ FS'.out) Tryz.underlying60 rfl hi60z) rfl ?_
    exact BAD.out HNO.out
  have HOK : Hid (okC T) := hok
  have HMK : Hid (Mk w3 g cp (nums (cmB T))) := hmk
  clear hok hmk hge
  obtain ⟨eq, HEQ⟩ : ∃ b : Bool, Hid ((cmB T == l) = b) := ⟨_, rfl⟩
  obtain ⟨tl, HTL⟩ : ∃ k, Hid ((cmB T).length = k) := ⟨_, rfl⟩
  have CE : Hid (Calls Tryz.prog 124 #[.slice (some ⟨g, 0, none⟩) tl cp, .slice a n cap] w3 fun e w' => e = .returned (.bool eq) ∧ w' = w3) := hid (by
    have h := equal_any (some ⟨g, 0, none⟩) a cp cap (nums (cmB T)) zs w3 HMK.out.sl (HSL.out _ HB3.out)
    rw [nums_len, HTL.out, bytesOf_nums, HL.out, HEQ.out, HN.out] at h
    exact h)
  rw [HTL.out]
  go_wp2_with fail
  refine CE.out.mono ?_
  rintro ev w3' ⟨rfl, hw3⟩
  have hw3' := hw3.symm
  subst hw3'
  clear hw3
  cases eq with
  | false =>
    have HNO : Hid (¬ (okC T ∧ cmB T = l)) := fun h => by have h2 := HEQ.out; rw [h.2] at h2; simp at h2
    go_wp2_with (first
      | refine wpList_load_mid rfl 60 _ rfl w3.heap.size 0 rfl ZV _ FL.out Tryz.underlying60 rfl hi60z ?_
      | refine wpList_store_mid rfl 60 _ _ rfl G 0 ZV.toArray rfl rfl FS.out FI.out FO.out ?_)
    refine bodyPost_ret (v := .tuple #[.agg ZV.toArray, .iface 35 (.int .i64 22)]) (results_mid2 Tryz.results105 _ _ G ZV _ rfl (World.rangeAt_setCells_same _ G 0 _ FS'.out) Tryz.underlying60 rfl hi60z) rfl ?_
    exact BAD.out HNO.out
  | true =>
    have HYE : Hid (cmB T = l) := hid (by have h2 := HEQ.out; simpa using h2)
    have GL : Hid (w3.rangeAt H 0 TV) := hid (range_row HV3.out)
    have GS : Hid (w3.there G 0 TV.toArray.size) := hid (there_off HR3.out 0 (by rw [← D1.out]; omega))
    have GS' : Hid (w3.there G 0 TV.length) := hid (there_off HR3.out 0 (by rw [List.size_toArray, HZL.out, HVL.out]; omega))
    go_wp2_with (first
      | refine wpList_load_mid rfl 60 _ rfl H 0 rfl TV _ GL.out Tryz.underlying60 rfl hi60 ?_
      | refine wpList_store_mid rfl 60 _ _ rfl G 0 TV.toArray rfl rfl GS.out CI.out CO.out ?_)
    refine bodyPost_ret (v := .tuple #[.agg TV.toArray, .nilIface]) (results_mid2 Tryz.results105 _ _ G TV _ rfl (World.rangeAt_setCells_same _ G 0 _ GS'.out) Tryz.underlying60 rfl hi60) rfl ⟨?_, ?_⟩
    · rw [HG.out]
      exact below_setCells (Nat.le_refl _) _ _ _ _ HB3.out
    · refine ⟨T, HTG.out, .inl ⟨⟨HOK.out, HYE.out⟩, pa, pc, by rw [HTV.out], ?_⟩⟩
      rw [HG.out]
      exact (OI3.out.setCells hs0 0 TV).lower (Nat.le_of_lt hs0)
theorem PostBC.form {l : List UInt8} {w : World} {e : Ending} {w' : World} (h : PostBC l w e w') : ∃ (X : Cm) (pa : Option Addr) (pc : Nat) (ev : Value), e = .returned (.tuple #[.agg (cmV X pa pc).toArray, ev]) ∧ X.tree.length = 20 := by
  obtain ⟨T, htg, ⟨_, pa, pc, rfl, _⟩ | ⟨_, rfl⟩⟩ := h
  · exact ⟨T, pa, pc, _, rfl, htg.1.1⟩
  · exact ⟨cm0 z20, none, 0, _, rfl, rfl⟩
theorem PostBC.up {l : List UInt8} {w0 w w1 : World} {e : Ending} (h : PostBC l w0 e w1) (hw : w.heap.size ≤ w0.heap.size) (g : Nat) (hg : g < w0.heap.size) (vs : List Value) : PostBC l w e (w1.setCells g 0 vs) := by
  obtain ⟨T, htg, ⟨h1, pa, pc, rfl, ho⟩ | h1⟩ := h
  · exact ⟨T, htg, .inl ⟨h1, pa, pc, rfl, (ho.setCells hg 0 vs).lower hw⟩⟩
  · exact ⟨T, htg, .inr h1⟩
set_option maxRecDepth 20000 in
set_option maxHeartbeats 1000000 in
theorem readCommit_any (a : Option Addr) (cap : Nat) (zs : List Int) (hl : zs.length ≤ 200000) (hz : IsB zs) (w : World) (ht : Tab w) (he : Ers w) (hm : Mx w) (hS : Sl w a cap zs) :
    Calls Tryz.prog 61 #[.slice a zs.length cap] w fun e w' => Below w.heap.size w w' ∧ PostBC (Lib.bytesOf zs) w e w' := by
  obtain ⟨ZV, HZ⟩ : ∃ l : List Value, Hid (l = cmV (cm0 z20) none 0) := ⟨_, rfl⟩
  have hz60 := zero60
  rw [← HZ.out] at hz60
  have HZL : Hid (ZV.length = 30) := hid (by rw [HZ.out]; exact cmV_len _ _ _ rfl)
  obtain ⟨n, HN⟩ : ∃ n, Hid (zs.length = n) := ⟨_, rfl⟩
  obtain ⟨G, HG⟩ : ∃ G, Hid (w.heap.size = G) := ⟨_, rfl⟩
  obtain ⟨w0, HW0⟩ : ∃ w0, Hid (w.alloc (.cells ZV.toArray 60) = w0) := ⟨_, rfl⟩
  have HB0 : Hid (Below G w w0) := hid (by rw [← HW0.out, ← HG.out]; exact (Below.refl _ w).alloc (Nat.le_refl _) _)
  have HR0 : Hid (w0.heap[G]? = some (.cells ZV.toArray 60 (0, 0))) := hid (by rw [← HW0.out, ← HG.out]; exact heap_alloc_new w _)
  have C1 : Hid (Calls Tryz.prog 105 #[.slice a n cap, .int .i64 22, .func (.func 106) #[] #[], .func (.func 22) #[] #[]] w0 fun e w' => Below w0.heap.size w0 w' ∧ PostBC (Lib.bytesOf zs) w0 e w') := hid (by
    have hb : Below w.heap.size w w0 := by rw [HG.out]; exact HB0.out
    rw [← HN.out]
    exact readBackC_any a cap zs hl hz w0 (ht.below hb) (he.below hb) (hm.below hb) (hS.below hb))
  rw [HN.out]
  clear ht he hm hS
  go_enter Tryz.func61, Tryz.ntmps61
  go_wp2_with fail
  rw [HG.out, HW0.out]
  refine C1.out.mono ?_
  rintro ev w1 ⟨hb1, hpb⟩
  obtain ⟨X, pa, pc, ev2, rfl, hx⟩ := hpb.form
  have HPB : Hid (PostBC (Lib.bytesOf zs) w0 (.returned (.tuple #[.agg (cmV X pa pc).toArray, ev2])) w1) := hpb
  have hs0 : G < w0.heap.size := lt_of_some HR0.out
  have HB1 : Hid (Below G w w1) := HB0.out.trans (hb1.mono (Nat.le_of_lt (lt_of_some HR0.out)))
  have HR1 : Hid (w1.heap[G]? = some (.cells ZV.toArray 60 (0, 0))) := hid ((hb1.block G (lt_of_some HR0.out)).trans HR0.out)
  have HID : Hid (X.tree.length = 20) := hx
  clear hpb hb1 hx
  obtain ⟨TV, HTV⟩ : ∃ l : List Value, Hid (cmV X pa pc = l) := ⟨_, rfl⟩
  rw [HTV.out] at HPB
  rw [HTV.out]
  have HVL : Hid (TV.length = 30) := hid (by rw [← HTV.out]; exact cmV_len X pa pc HID.out)
  have hi60 : (Tryz.prog.info? 60).map (·.size) = some TV.length := by rw [HVL.out]; exact Tryz.size60
  have CI : Hid ((Tryz.prog.info? 60).map (·.size) = some TV.toArray.size) := hid (by rw [List.size_toArray]; exact hi60)
  have CO : Hid (TV.toArray.all (·.oneCell') = true) := hid (by rw [← HTV.out]; exact all_oneCell_toArray (cmV_one X pa pc))
  have GS : Hid (w1.there G 0 TV.toArray.size) := hid (there_off HR1.out 0 (by rw [List.size_toArray, List.size_toArray, HZL.out, HVL.out]; omega))
  have GS' : Hid (w1.there G 0 TV.length) := hid (there_off HR1.out 0 (by rw [List.size_toArray, HZL.out, HVL.out]; omega))
  go_wp2_with (refine wpList_store_mid rfl 60 _ _ rfl G 0 TV.toArray rfl rfl GS.out CI.out CO.out ?_)
  refine bodyPost_ret (v := .tuple #[.agg TV.toArray, ev2]) (results_mid2 Tryz.results61 _ _ G TV _ rfl (World.rangeAt_setCells_same _ G 0 _ GS'.out) Tryz.underlying60 rfl hi60) rfl ⟨?_, HPB.out.up (by rw [HG.out]; omega) G hs0 TV⟩
  rw [HG.out]
  exact below_setCells (Nat.le_refl _) _ _ _ _ HB1.out
end Go.Proofs.YtbpdielmdhhdfaaGreatDoor
namespace Go.Proofs.YtbpdielmdhhdfaaGreatDoor
set_option linter.unusedVariables false
set_option linter.unusedSimpArgs false
theorem cut_at (a b sep : List UInt8) (h1 : Lib.occAt (a ++ (sep ++ b)) sep a.length = true) (h2 : ∀ j, j < a.length → Lib.occAt (a ++ (sep ++ b)) sep j = false) : Lib.cut (a ++ (sep ++ b)) sep = (a, b, true) := by
  have hi : Lib.index (a ++ (sep ++ b)) sep = (a.length : Nat) := Lib.index_first (by simp) h1 h2
  unfold Lib.cut
  rw [hi, if_pos (by omega)]
  simp
theorem occ_here (a b sep : List UInt8) : Lib.occAt (a ++ (sep ++ b)) sep a.length = true := by
  simp [Lib.occAt]
theorem occ_not (s sep : List UInt8) (j k : Nat) (c : UInt8) (hc : sep[k]? = some c) (hn : s[j + k]? ≠ some c) : Lib.occAt s sep j = false := by
  cases h : Lib.occAt s sep j with
  | false => rfl
  | true =>
    refine absurd ?_ hn
    unfold Lib.occAt at h
    obtain ⟨t, ht⟩ := List.isPrefixOf_iff_prefix.1 h
    obtain ⟨hk, _⟩ := List.getElem?_eq_some_iff.1 hc
    rw [← List.getElem?_drop, ← ht, List.getElem?_append_left hk]
    exact hc
theorem cut_one (a b : List UInt8) (c : UInt8) (h : c ∉ a) : Lib.cut (a ++ c :: b) [c] = (a, b, true) := by
  refine cut_at a b [c] (occ_here a b [c]) (fun j hj => occ_not _ _ j 0 c rfl ?_)
  rw [Nat.add_zero, List.getElem?_append_left hj]
  exact fun e => h (List.mem_of_getElem? e)
theorem cut_two (a b : List UInt8) (c d : UInt8) (hcd : c ≠ d) (h : d ∉ a) : Lib.cut (a ++ c :: d :: b) [c, d] = (a, b, true) := by
  refine cut_at a b [c, d] (occ_here a b [c, d]) (fun j hj => occ_not _ _ j 1 d rfl ?_)
  rcases Nat.lt_or_ge (j + 1) a.length with h1 | h1
  · rw [List.getElem?_append_left h1]
    exact fun e => h (List.mem_of_getElem? e)
  · rw [List.getElem?_append_right h1, show j + 1 - a.length = 0 from by omega]
    simpa using hcd
theorem cut_two' (a b : List UInt8) (c d : UInt8) (h : c ∉ a) : Lib.cut (a ++ c :: d :: b) [c, d] = (a, b, true) := by
  refine cut_at a b [c, d] (occ_here a b [c, d]) (fun j hj => occ_not _ _ j 0 c rfl ?_)
  rw [Nat.add_zero, List.getElem?_append_left hj]
  exact fun e => h (List.mem_of_getElem? e)
theorem ln_fld {l wd o r : List UInt8} (h : Ln l wd o r) (hw : (10 : UInt8) ∉ wd) : fld l wd = o ∧ rst l = r := by
  obtain ⟨rfl, ho⟩ := h
  have hc : Lib.cut (wd ++ 32 :: (o ++ 10 :: r)) [10] = (wd ++ 32 :: o, r, true) := by
    rw [show wd ++ 32 :: (o ++ 10 :: r) = (wd ++ 32 :: o) ++ 10 :: r from by simp]
    refine cut_one _ _ _ ?_
    intro hm
    rcases List.mem_append.1 hm with hm | hm
    · exact hw hm
    · rcases List.mem_cons.1 hm with hm | hm
      · cases hm
      · exact ho hm
  unfold fld rst
  rw [hc]
  refine ⟨?_, rfl⟩
  unfold Lib.trimPrefix Lib.hasPrefix
  rw [if_pos (List.isPrefixOf_iff_prefix.2 ⟨o, by simp⟩)]
  show (wd ++ 32 :: o).drop _ = o
  rw [show wd ++ 32 :: o = (wd ++ [32]) ++ o from by simp]
  exact List.drop_left' rfl
theorem per_cut (q : Per) (hq : okP q) : p1 (perB q) = q.name ∧ p2 (perB q) = q.mail ∧ p3 (perB q) = Lib.decDigits q.time.toNat ∧ p4 (perB q) = zoneB q.zone := by
  obtain ⟨⟨_, nb, _⟩, ⟨_, mb, _⟩, _, _, _⟩ := hq
  have k1 : Lib.cut (perB q) [32, 60] = (q.name, q.mail ++ 62 :: 32 :: (Lib.decDigits q.time.toNat ++ 32 :: zoneB q.zone), true) := cut_two _ _ _ _ (by decide) (fun h => (nb 60 h).1 rfl)
  have k2 : Lib.cut (q.mail ++ 62 :: 32 :: (Lib.decDigits q.time.toNat ++ 32 :: zoneB q.zone)) [62, 32] = (q.mail, Lib.decDigits q.time.toNat ++ 32 :: zoneB q.zone, true) := cut_two' _ _ _ _ (fun h => (mb 62 h).2.1 rfl)
  have k3 : Lib.cut (Lib.decDigits q.time.toNat ++ 32 :: zoneB q.zone) [32] = (Lib.decDigits q.time.toNat, zoneB q.zone, true) := cut_one _ _ _ (fun h => by
    have h1 := ((dig_val q.time.toNat).2.1 32 h).1
    have h2 : (32 : UInt8).toNat = 32 := rfl
    omega)
  unfold p1 p2 p3 p4
  rw [k1]
  simp only
  rw [k2]
  simp only
  rw [k3]
  exact ⟨trivial, trivial, rfl, rfl⟩
end Go.Proofs.YtbpdielmdhhdfaaGreatDoor
namespace Go.Proofs.YtbpdielmdhhdfaaGreatDoor
set_option linter.unusedVariables false
set_option linter.unusedSimpArgs false
def valF (acc : Nat) (l : List UInt8) : Nat := l.foldl (fun n x => n * 10 + (x.toNat - 48)) acc
theorem room_step {acc d k E : Nat} (hd : d ≤ 9) (h : (acc + 1) * 10 ^ (k + 1) ≤ E) : (acc * 10 + d + 1) * 10 ^ k ≤ E ∧ acc * 10 + d < E ∧ acc * 10 < E := by
  rw [Nat.pow_succ] at h
  have h0 : 0 < 10 ^ k := Nat.pow_pos (by decide)
  have h1 : (acc * 10 + d + 1) * 10 ^ k ≤ (acc + 1) * (10 ^ k * 10) := by
    rw [Nat.mul_comm (10 ^ k) 10, ← Nat.mul_assoc]
    exact Nat.mul_le_mul_right _ (by omega)
  have h2 : acc * 10 + d + 1 ≤ (acc * 10 + d + 1) * 10 ^ k := Nat.le_mul_of_pos_right _ h0
  omega
theorem parseM (M : Nat) (hM : 1000000000000000000 ≤ M) : ∀ (l : List UInt8) (acc : Nat), (∀ x ∈ l, digS x) → (acc + 1) * 10 ^ l.length ≤ 1000000000000000000 → Lib.parseUintM M acc l = .ok (valF acc l)
  | [], acc, _, _ => rfl
  | c :: r, acc, hd, hb => by
    have hc := hd c (by simp)
    unfold digS at hc
    obtain ⟨b1, b2, b3⟩ := room_step (d := c.toNat - 48) (by omega) hb
    rw [Lib.parseUintM, if_pos hc, if_neg (by omega), if_neg (by omega)]
    exact parseM M hM r _ (fun x hx => hd x (by simp [hx])) b1
theorem parse10 : ∀ (l : List UInt8) (acc : Nat), (∀ x ∈ l, digS x) → (acc + 1) * 10 ^ l.length ≤ 1000000000000000000 → Lib.parseUint10 acc l = .ok (valF acc l)
  | [], acc, _, _ => rfl
  | c :: r, acc, hd, hb => by
    have hc := hd c (by simp)
    unfold digS at hc
    obtain ⟨b1, b2, b3⟩ := room_step (d := c.toNat - 48) (by omega) hb
    rw [Lib.parseUint10, if_pos hc, if_neg (by omega), if_neg (by omega)]
    exact parse10 r _ (fun x hx => hd x (by simp [hx])) b1
theorem time_back (t : Nat) (ht : t ≤ 1099511627776) : Lib.parseIntB 64 (Lib.decDigits t) = .ok (t : Int) := by
  obtain ⟨d1, d2, d3, d4⟩ := dig_val t
  have hl := dig_len40 t ht
  have hp : Lib.parseUintM (2 ^ 64 - 1) 0 (Lib.decDigits t) = .ok t := by
    have h := parseM (2 ^ 64 - 1) (by decide) (Lib.decDigits t) 0 d2 (by
      have : 10 ^ (Lib.decDigits t).length ≤ 10 ^ 13 := Nat.pow_le_pow_right (by decide) hl
      omega)
    rw [h]
    exact congrArg Lib.NumEnd.ok d1
  cases hd : Lib.decDigits t with
  | nil => rw [hd] at d3; simp at d3
  | cons c r =>
    have hc : digS c := d2 c (by rw [hd]; simp)
    unfold digS at hc
    rw [hd] at hp
    unfold Lib.parseIntB Lib.parseUintB
    simp only
    rw [if_neg (show ¬ (c.toNat = 43 ∨ c.toNat = 45) by omega), if_neg (show ¬ (c :: r = []) by simp), hp]
    simp only
    rw [if_neg (by omega), if_neg (by omega), if_neg (by omega)]
theorem zone_back (z : Int) (h1 : -840 ≤ z) (h2 : z ≤ 840) (z' : Int) (h : PZ (zoneB z) z') : z' = z := by
  obtain ⟨hh, eh⟩ : ∃ x, x = z.natAbs / 60 := ⟨_, rfl⟩
  obtain ⟨mm, em⟩ : ∃ x, x = z.natAbs % 60 := ⟨_, rfl⟩
  have bh : hh < 100 := by omega
  have bm : mm < 100 := by omega
  have k1 := ofNat_toNat48 (hh / 10) (by omega)
  have k2 := ofNat_toNat48 (hh % 10) (by omega)
  have k3 := ofNat_toNat48 (mm / 10) (by omega)
  have k4 := ofNat_toNat48 (mm % 10) (by omega)
  have hp : Lib.parseUint10 0 (two hh ++ two mm) = .ok (hh * 100 + mm) := by
    rw [parse10 (two hh ++ two mm) 0 (by
      intro x hx
      simp only [two, List.cons_append, List.nil_append, List.mem_cons, List.not_mem_nil, or_false] at hx
      unfold digS
      rcases hx with rfl | rfl | rfl | rfl <;> omega) (by simp [two])]
    refine congrArg Lib.NumEnd.ok ?_
    simp only [valF, two, List.cons_append, List.nil_append, List.foldl_cons, List.foldl_nil, k1, k2, k3, k4]
    omega
  have hne : ¬ (two hh ++ two mm = []) := by simp [two]
  by_cases hz : z < 0
  · have hv : Lib.atoiAll (zoneB z) = .ok (-((hh * 100 + mm : Nat) : Int)) := by
      unfold zoneB
      rw [if_pos hz, ← eh, ← em]
      unfold Lib.atoiAll Lib.parseMag
      simp only
      rw [if_pos (show ((45 : UInt8).toNat = 43 ∨ (45 : UInt8).toNat = 45) by decide), if_neg hne, hp]
      simp only
      rw [if_neg (by omega), if_neg (by omega), if_pos (by decide)]
    have h3 := h _ hv (by omega) (by omega)
    rw [h3, Int.neg_tdiv, Int.neg_tmod, Int.tdiv_eq_ediv_of_nonneg (by omega), Int.tmod_eq_emod_of_nonneg (by omega)]
    omega
  · have hv : Lib.atoiAll (zoneB z) = .ok ((hh * 100 + mm : Nat) : Int) := by
      unfold zoneB
      rw [if_neg hz, ← eh, ← em]
      unfold Lib.atoiAll Lib.parseMag
      simp only
      rw [if_pos (show ((43 : UInt8).toNat = 43 ∨ (43 : UInt8).toNat = 45) by decide), if_neg hne, hp]
      simp only
      rw [if_neg (by omega), if_neg (by omega), if_neg (by decide)]
    have h3 := h _ hv (by omega) (by omega)
    rw [h3, Int.tdiv_eq_ediv_of_nonneg (by omega), Int.tmod_eq_emod_of_nonneg (by omega)]
    omega
theorem pp_back (q : Per) (hq : okP q) (p : Per) (h : PP (perB q) p) : p = q := by
  obtain ⟨c1, c2, c3, c4⟩ := per_cut q hq
  have b := hq.2.2
  obtain ⟨_, _, h3⟩ := h
  rw [c1, c2, c3, c4] at h3
  obtain ⟨e1, e2, e3, e4⟩ := h3 _ (time_back q.time.toNat (by omega))
  have e5 := zone_back q.zone b.2.1 b.2.2 _ e4
  obtain ⟨a1, a2, a3, a4⟩ := p
  obtain ⟨b1, b2, b3, b4⟩ := q
  simp only at e1 e2 e3 e5 b
  subst e1
  subst e2
  subst e5
  congr 1
  omega
end Go.Proofs.YtbpdielmdhhdfaaGreatDoor
namespace Go.Proofs.YtbpdielmdhhdfaaGreatDoor.Hx
open Go.RowKit
set_option linter.unusedVariables false
set_option maxRecDepth 20000 in
set_option maxHeartbeats 1000000 in
theorem parse_ref (s : ByteArray) (w : World) (hl : s.size ≤ 300000) :
    Calls Tryz.prog 108 #[.string s] w fun e w' => Below w.heap.size w w' ∧ ((s.size = 40 ∧ good s → e = .returned (.tuple #[.agg (row (idAt s 40)).toArray, .bool true])) ∧ (¬ (s.size = 40 ∧ good s) → e = .returned (.tuple #[.agg (row zeros).toArray, .bool false]))) := by
  have hi2 : ∀ l : List Int, l.length = 20 → (Tryz.prog.info? 31).map (·.size) = some (row l).length := fun l h => by rw [row_len, h]; exact Tryz.info31
  by_cases h40 : s.size = 40
  · go_enter Tryz.func108, Tryz.ntmps108
    go_wp2
    go_loopg [5] 40 (fun k i wr => ∃ j : Nat, j ≤ 40 ∧ k = 40 - j ∧ i = .int .i64 j ∧ (∀ k, k < j → 0 ≤ hv (sgn s k)) ∧ Hid (wr.heap[w.heap.size + 1]? = some (.cells (row (idAt s j)).toArray 31 (0, 0))) ∧ Hid (wr.heap[w.heap.size]? = some (.cells (row zeros).toArray 31 (0, 0))) ∧ Hid (Below w.heap.size w wr))
    case atStart => exact ⟨0, by omega, rfl, rfl, fun k hk => by omega, heap_alloc2_new w _ _, heap_alloc2_old w _ _, ((Below.refl _ _).alloc (Nat.le_refl _) _).alloc (by simp) _⟩
    case round =>
      obtain ⟨j, hj, hk, rfl, hgd, H1, H0, HB⟩ := hrel
      by_cases hlt : j < 40
      · obtain ⟨c, HC⟩ : ∃ c, Hid (c = sgn s j) := ⟨_, rfl⟩
        have hix : ∀ w1 : World, (Instr.index 9 (.string s) (.int .i64 j)).run Tryz.prog w1 = .ok (.int .u8 c) w1 := fun w1 => by rw [HC.out]; exact index_sgn s j w1 (by omega)
        have hcb : 0 ≤ c ∧ c < 256 := by rw [HC.out]; exact sgn_bd s j
        obtain ⟨m, HM⟩ : ∃ m, Hid (m = j / 2) := ⟨_, rfl⟩
        have hm : j / 2 = m := HM.out.symm
        have hm2 : m < 20 := by omega
        obtain ⟨x, HX⟩ : ∃ x, Hid (x = (idAt s j).getD (j / 2) 0) := ⟨_, rfl⟩
        have hcell : wr.cell? ⟨w.heap.size + 1, j / 2, none⟩ = some (.int .u8 x) := by rw [HX.out]; exact row_cell H1.out (j / 2) (by rw [idAt_len]; omega)
        have hfz := frozen_of_row wr (w.heap.size + 1) (j / 2) _ 31 H1.out
        have hxb : 0 ≤ x ∧ x < 256 := idAt_bd s j x (by rw [HX.out, List.getD_eq_getElem?_getD, List.getElem?_eq_getElem (by rw [idAt_len]; omega)]; exact List.getElem_mem _)
        rw [hm] at hcell hfz
        by_cases hd : 48 ≤ c ∧ c ≤ 57
        · have hvc : hv c = c - 48 := by unfold hv; rw [if_pos hd]
          go_wp2
          go_roundg (40 - (j + 1))
          case measure => omega
          case rel =>
            refine ⟨j + 1, by omega, rfl, by go_num, ?_, ?_, ?_, HB.out.setCell (by simp) _⟩
            · intro k hk
              rcases Nat.lt_or_ge k j with h | h
              · exact hgd k h
              · obtain rfl : k = j := by omega
                rw [← HC.out, hvc]; omega
            · show _ = _
              rw [heap_setCell_same wr _ _ _ _ _ H1.out, idAt, ← HX.out, ← HC.out, hvc, hm, row_set, show x * 16 % 256 + (c - 48) = (x * 16 + (c - 48)) % 256 from by omega]
            · show _ = _
              rw [heap_setCell_other wr _ _ _ (by simp)]; exact H0.out
        · by_cases hd2 : 97 ≤ c ∧ c ≤ 102
          · have hvc : hv c = c - 87 := by unfold hv; rw [if_neg hd, if_pos hd2]
            have hd1 : ¬ c ≤ 57 := by omega
            go_wp2
            go_roundg (40 - (j + 1))
            case measure => omega
            case rel =>
              refine ⟨j + 1, by omega, rfl, by go_num, ?_, ?_, ?_, HB.out.setCell (by simp) _⟩
              · intro k hk
                rcases Nat.lt_or_ge k j with h | h
                · exact hgd k h
                · obtain rfl : k = j := by omega
                  rw [← HC.out, hvc]; omega
              · show _ = _
                rw [heap_setCell_same wr _ _ _ _ _ H1.out, idAt, ← HX.out, ← HC.out, hvc, hm, row_set, show x * 16 % 256 + (c - 97 + 10) = (x * 16 + (c - 87)) % 256 from by omega]
              · show _ = _
                rw [heap_setCell_other wr _ _ _ (by simp)]; exact H0.out
          · have hvc : hv c = -1 := by unfold hv; rw [if_neg hd, if_neg hd2]
            have fin : ∀ (tm : Array Value), tm.getD 2 undef = .pointer (some ⟨w.heap.size, 0, none⟩) → tm.getD 3 undef = .bool false → (results Tryz.f108 tm).run Tryz.prog (wr.setCells w.heap.size 0 (row zeros).toArray.toList) = .ok (.tuple #[.agg (row zeros).toArray, .bool false]) (wr.setCells w.heap.size 0 (row zeros).toArray.toList) := fun tm h2 h3 =>
              results_mid2 (t2 := 4) Tryz.results108 tm _ w.heap.size _ _ _ h2 h3 (World.rangeAt_setCells_same _ w.heap.size 0 _ (there_row H0.out rfl)) Tryz.underlying31 rfl (hi2 _ rfl)
            have bad : Hid (¬ good s) := fun h => absurd (h j hlt) (by rw [← HC.out, hvc]; omega)
            have HF : Hid (Below w.heap.size w (wr.setCells w.heap.size 0 (row zeros).toArray.toList)) := below_setCells (Nat.le_refl _) _ _ _ _ HB.out
            rcases (by omega : c < 48 ∨ (57 < c ∧ 48 ≤ c ∧ c < 97) ∨ (102 < c ∧ 97 ≤ c ∧ 57 < c ∧ 48 ≤ c)) with h1 | h1 | h1
            all_goals
              go_wp2_with (refine wpList_store_mid rfl 31 _ _ rfl w.heap.size 0 (row zeros).toArray rfl rfl (there_row H0.out rfl) (hi2 _ rfl) (all_oneCell_toArray (row_one _)) ?_)
              exact bodyPost_ret (v := .tuple #[.agg (row zeros).toArray, .bool false]) (fin _ rfl rfl) rfl ⟨HF.out, fun h => absurd h bad.out, fun _ => rfl⟩
      · obtain rfl : j = 40 := by omega
        go_wp2_with (first | refine wpList_load_mid rfl 31 _ rfl (w.heap.size + 1) 0 rfl (row (idAt s 40)) _ (range_row H1.out) Tryz.underlying31 rfl (hi2 _ (idAt_len s 40)) ?_ | refine wpList_store_mid rfl 31 _ _ rfl w.heap.size 0 (row (idAt s 40)).toArray rfl rfl ?t1 ?t2 ?t3 ?_)
        case t1 => rw [show (row (idAt s 40)).toArray.size = 20 from by rw [List.size_toArray, row_len, idAt_len]]; exact there_row H0.out rfl
        case t2 => rw [List.size_toArray]; exact hi2 _ (idAt_len s 40)
        case t3 => exact all_oneCell_toArray (row_one _)
        · refine bodyPost_ret (v := .tuple #[.agg (row (idAt s 40)).toArray, .bool true]) (results_mid2 (t2 := 4) Tryz.results108 _ _ w.heap.size _ _ _ rfl rfl (World.rangeAt_setCells_same wr w.heap.size 0 _ ?_) Tryz.underlying31 rfl (hi2 _ (idAt_len s 40))) rfl ⟨below_setCells (Nat.le_refl _) _ _ _ _ HB.out, fun _ => rfl, fun h => absurd ⟨h40, hgd⟩ h⟩
          rw [row_len, idAt_len]; exact there_row H0.out rfl
  · have hnq : (s.size : Int) ≠ 40 := by omega
    have H1 : Hid (((w.alloc (.cells (row zeros).toArray 31)).alloc (.cells (row zeros).toArray 31)).heap[w.heap.size + 1]? = some (.cells (row zeros).toArray 31 (0, 0))) := heap_alloc2_new w _ _
    have H0 : Hid (((w.alloc (.cells (row zeros).toArray 31)).alloc (.cells (row zeros).toArray 31)).heap[w.heap.size]? = some (.cells (row zeros).toArray 31 (0, 0))) := heap_alloc2_old w _ _
    have HB : Hid (Below w.heap.size w ((w.alloc (.cells (row zeros).toArray 31)).alloc (.cells (row zeros).toArray 31))) := ((Below.refl _ _).alloc (Nat.le_refl _) _).alloc (by simp) _
    go_enter Tryz.func108, Tryz.ntmps108
    go_wp2_with (first | refine wpList_load_mid rfl 31 _ rfl (w.heap.size + 1) 0 rfl (row zeros) _ (range_row H1.out) Tryz.underlying31 rfl (hi2 _ rfl) ?_ | refine wpList_store_mid rfl 31 _ _ rfl w.heap.size 0 (row zeros).toArray rfl rfl ?t1 ?t2 ?t3 ?_)
    case t1 => exact there_row H0.out rfl
    case t2 => exact hi2 _ rfl
    case t3 => exact all_oneCell_toArray (row_one _)
    · refine bodyPost_ret (v := .tuple #[.agg (row zeros).toArray, .bool false]) (results_mid2 (t2 := 4) Tryz.results108 _ _ w.heap.size _ _ _ rfl rfl (World.rangeAt_setCells_same _ w.heap.size 0 _ ?_) Tryz.underlying31 rfl (hi2 _ rfl)) rfl ⟨below_setCells (Nat.le_refl _) _ _ _ _ HB.out, fun h => absurd h.1 h40, fun _ => rfl⟩
      exact there_row H0.out rfl
end Go.Proofs.YtbpdielmdhhdfaaGreatDoor.Hx
namespace Go.Proofs.YtbpdielmdhhdfaaGreatDoor.Hx
open Go.RowKit
set_option linter.unusedVariables false
set_option linter.unusedSimpArgs false
theorem str_sgn (l : List Int) (k : Nat) (h : k < l.length) (hb : ∀ n ∈ l, 0 ≤ n ∧ n < 256) : sgn (strOfNums l) k = l.getD k 0 := by
  have hm := hb _ (List.getElem_mem h)
  unfold sgn strOfNums
  simp [h]
  omega
theorem dig_bd (n : Int) (h : 0 ≤ n ∧ n < 16) : 0 ≤ dig n ∧ dig n < 256 := by unfold dig; split <;> omega
theorem hv_dig (n : Int) (h : 0 ≤ n ∧ n < 16) : hv (dig n) = n := by
  unfold hv dig
  by_cases a : n < 10
  · rw [if_pos a, if_pos (by omega)]; omega
  · rw [if_neg a, if_neg (by omega), if_pos (by omega)]; omega
theorem hexOf_bd (zs : List Int) (hz : ∀ n ∈ zs, 0 ≤ n ∧ n < 256) : ∀ n ∈ hexOf zs, 0 ≤ n ∧ n < 256 := by
  intro n hn
  simp only [hexOf, List.mem_flatMap] at hn
  obtain ⟨x, hx, hn⟩ := hn
  have := hz x hx
  simp at hn
  rcases hn with rfl | rfl
  · exact dig_bd _ (by omega)
  · exact dig_bd _ (by omega)
theorem hexOf_at : ∀ (zs : List Int) (k : Nat), k < zs.length → (hexOf zs).getD (2 * k) 0 = dig (zs.getD k 0 / 16) ∧ (hexOf zs).getD (2 * k + 1) 0 = dig (zs.getD k 0 % 16)
  | x :: r, 0, _ => by simp [hexOf]
  | x :: r, k + 1, h => by
    have := hexOf_at r k (by simpa using h)
    have e : hexOf (x :: r) = dig (x / 16) :: dig (x % 16) :: hexOf r := by simp [hexOf]
    rw [e, show 2 * (k + 1) = 2 * k + 1 + 1 from by omega, show 2 * k + 1 + 1 + 1 = (2 * k + 1) + 1 + 1 from rfl]
    simpa using this
theorem hex_sgn (zs : List Int) (hl : zs.length = 20) (hz : ∀ n ∈ zs, 0 ≤ n ∧ n < 256) (k : Nat) (hk : k < 40) : hv (sgn (strOfNums (hexOf zs)) k) = if k % 2 = 0 then zs.getD (k / 2) 0 / 16 else zs.getD (k / 2) 0 % 16 := by
  rw [str_sgn _ k (by rw [hexOf_len]; omega) (hexOf_bd zs hz)]
  have hx := hz (zs.getD (k / 2) 0) (by rw [List.getD_eq_getElem?_getD, List.getElem?_eq_getElem (by omega)]; exact List.getElem_mem _)
  obtain ⟨h0, h1⟩ := hexOf_at zs (k / 2) (by omega)
  by_cases h2 : k % 2 = 0
  · rw [if_pos h2, show k = 2 * (k / 2) from by omega, h0, show 2 * (k / 2) / 2 = k / 2 from by omega]
    exact hv_dig _ (by omega)
  · rw [if_neg h2]
    have e : (hexOf zs).getD k 0 = (hexOf zs).getD (2 * (k / 2) + 1) 0 := by congr 1; omega
    rw [e, h1]
    exact hv_dig _ (by omega)
theorem hex_good (zs : List Int) (hl : zs.length = 20) (hz : ∀ n ∈ zs, 0 ≤ n ∧ n < 256) : good (strOfNums (hexOf zs)) := fun k hk => by
  have hx := hz (zs.getD (k / 2) 0) (by rw [List.getD_eq_getElem?_getD, List.getElem?_eq_getElem (by omega)]; exact List.getElem_mem _)
  rw [hex_sgn zs hl hz k hk]
  split <;> omega
theorem getD_set (l : List Int) (i j : Nat) (v : Int) (hi : i < l.length) : (l.set i v).getD j 0 = if i = j then v else l.getD j 0 := by
  rw [List.getD_eq_getElem?_getD, List.getElem?_set]
  by_cases h : i = j
  · subst h; simp [hi]
  · simp [h]
theorem hex_back_at (zs : List Int) (hl : zs.length = 20) (hz : ∀ n ∈ zs, 0 ≤ n ∧ n < 256) : ∀ k, k ≤ 40 → ∀ j, j < 20 → (idAt (strOfNums (hexOf zs)) k).getD j 0 = if 2 * j + 1 < k then zs.getD j 0 else if 2 * j < k then zs.getD j 0 / 16 else 0
  | 0, _, j, hj => by
    rw [if_neg (by omega), if_neg (by omega)]
    simp only [idAt, zeros, List.getD_eq_getElem?_getD, List.getElem?_replicate]; split <;> rfl
  | k + 1, hk, j, hj => by
    have ih := hex_back_at zs hl hz k (by omega)
    have hx := hz (zs.getD j 0) (by rw [List.getD_eq_getElem?_getD, List.getElem?_eq_getElem (by omega)]; exact List.getElem_mem _)
    rw [idAt, getD_set _ _ _ _ (by rw [idAt_len]; omega), hex_sgn zs hl hz k (by omega)]
    by_cases e : k / 2 = j
    · rw [if_pos e, ih (k / 2) (by omega), e]
      by_cases h2 : k % 2 = 0
      · rw [if_pos h2, if_neg (by omega), if_neg (by omega), if_neg (by omega), if_pos (by omega)]; omega
      · rw [if_neg h2, if_neg (by omega), if_pos (by omega), if_pos (by omega)]; omega
    · rw [if_neg e, ih j hj]
      by_cases h : 2 * j + 1 < k
      · rw [if_pos h, if_pos (by omega)]
      · rw [if_neg h]
        by_cases h' : 2 * j < k
        · omega
        · rw [if_neg h', if_neg (show ¬ 2 * j + 1 < k + 1 by omega), if_neg (show ¬ 2 * j < k + 1 by omega)]
theorem hex_back (zs : List Int) (hl : zs.length = 20) (hz : ∀ n ∈ zs, 0 ≤ n ∧ n < 256) : idAt (strOfNums (hexOf zs)) 40 = zs := by
  apply List.ext_getElem (by rw [idAt_len, hl])
  intro j h1 h2
  have := hex_back_at zs hl hz 40 (Nat.le_refl _) j (by omega)
  rw [if_pos (by omega)] at this
  simpa [h1, h2] using this
end Go.Proofs.YtbpdielmdhhdfaaGreatDoor.Hx
namespace Go.Proofs.YtbpdielmdhhdfaaGreatDoor
set_option linter.unusedVariables false
set_option linter.unusedSimpArgs false
theorem pid_back (id fr : List Int) (hl : id.length = 20) (hz : ∀ n ∈ id, 0 ≤ n ∧ n < 256) (h : PId (hexB id) fr) : fr = id := by
  have e : (⟨(hexB id).toArray⟩ : ByteArray) = strOfNums (Hx.hexOf id) := rfl
  have h2 := h.2.2 ⟨by rw [hexB_len, hl], by rw [e]; exact Hx.hex_good id hl hz⟩
  rw [h2, e]
  exact Hx.hex_back id hl hz
theorem kO_back (k : Int) (hk : ¬ (kN k).toList.isEmpty = true) (j : Nat) (h : kO ⟨(kN k).data.toList.toArray⟩ j) : (j : Int) = k := by
  have hc : k = 1 ∨ k = 2 ∨ k = 3 ∨ k = 4 := by
    unfold kN at hk
    by_cases h1 : k = 1
    · exact .inl h1
    by_cases h2 : k = 2
    · exact .inr (.inl h2)
    by_cases h3 : k = 3
    · exact .inr (.inr (.inl h3))
    by_cases h4 : k = 4
    · exact .inr (.inr (.inr h4))
    rw [if_neg (by simpa using h1), if_neg (by simpa using h2), if_neg (by simpa using h3), if_neg (by simpa using h4)] at hk
    rw [Lib.toList_data] at hk
    exact absurd rfl hk
  have e : (⟨(kN k).data.toList.toArray⟩ : ByteArray) = kN k := rfl
  rw [e] at h
  rcases h with ⟨h1, h2, h3⟩ | ⟨h1, h2⟩
  · have hj : j = 1 ∨ j = 2 ∨ j = 3 ∨ j = 4 := by omega
    rw [Lib.toList_data, Lib.toList_data] at h3
    rcases hc with rfl | rfl | rfl | rfl <;> rcases hj with rfl | rfl | rfl | rfl <;> first | rfl | (exact absurd h3 (by decide))
  · rcases hc with rfl | rfl | rfl | rfl
    · have h3 := h2 1 (by omega) (by omega)
      rw [Lib.toList_data, Lib.toList_data] at h3
      exact absurd h3 (by decide)
    · have h3 := h2 2 (by omega) (by omega)
      rw [Lib.toList_data, Lib.toList_data] at h3
      exact absurd h3 (by decide)
    · have h3 := h2 3 (by omega) (by omega)
      rw [Lib.toList_data, Lib.toList_data] at h3
      exact absurd h3 (by decide)
    · have h3 := h2 4 (by omega) (by omega)
      rw [Lib.toList_data, Lib.toList_data] at h3
      exact absurd h3 (by decide)
theorem hexB_no (id : List Int) (hz : ∀ n ∈ id, 0 ≤ n ∧ n < 256) : (10 : UInt8) ∉ hexB id := by
  intro h
  obtain ⟨n, hn, e⟩ := List.mem_map.1 h
  unfold Hx.hexOf at hn
  obtain ⟨x, hx, hn⟩ := List.mem_flatMap.1 hn
  have hb := hz x hx
  have hd : ∀ y : Int, 0 ≤ y → y < 16 → 48 ≤ Hx.dig y ∧ Hx.dig y < 103 := fun y h1 h2 => by unfold Hx.dig; split <;> omega
  have hn2 : 48 ≤ n ∧ n < 103 := by
    simp only [List.mem_cons, List.not_mem_nil, or_false] at hn
    rcases hn with rfl | rfl
    · exact hd _ (by omega) (by omega)
    · exact hd _ (by omega) (by omega)
  have h2 := congrArg UInt8.toNat e
  rw [UInt8.toNat_ofNat'] at h2
  have : (10 : UInt8).toNat = 10 := rfl
  omega
theorem tag_lines (t : Tg) : ∃ l1 l2 l3 l4, tagB t = wObject ++ 32 :: (hexB t.id ++ 10 :: l1) ∧ l1 = wType ++ 32 :: ((kN t.kind).data.toList ++ 10 :: l2) ∧ l2 = wTag ++ 32 :: (t.name ++ 10 :: l3) ∧ l3 = wTagger ++ 32 :: (perB t.per ++ 10 :: l4) ∧ l4 = 10 :: t.msg := by
  refine ⟨_, _, _, _, ?_, rfl, rfl, rfl, rfl⟩
  simp [tagB, ln2, w_object, w_type, w_tag, w_tagger, wObject, wType, wTag, wTagger]
end Go.Proofs.YtbpdielmdhhdfaaGreatDoor
namespace Go.Proofs.YtbpdielmdhhdfaaGreatDoor
set_option linter.unusedVariables false
set_option linter.unusedSimpArgs false
theorem two_no (n : Nat) (h : n < 100) : (10 : UInt8) ∉ two n := by
  intro hm
  have k1 := ofNat_toNat48 (n / 10) (by omega)
  have k2 := ofNat_toNat48 (n % 10) (by omega)
  have k3 : (10 : UInt8).toNat = 10 := rfl
  simp only [two, List.mem_cons, List.not_mem_nil, or_false] at hm
  rcases hm with e | e
  · rw [← e] at k1; omega
  · rw [← e] at k2; omega
theorem perB_no (q : Per) (hq : okP q) : (10 : UInt8) ∉ perB q := by
  obtain ⟨⟨_, nb, _⟩, ⟨_, mb, _⟩, _, z1, z2⟩ := hq
  rw [perB_parts]
  intro h
  simp only [List.mem_append] at h
  rcases h with h | h | h | h | h | h | h | h
  · exact (nb 10 h).2.2.1 rfl
  · simp at h
  · exact (mb 10 h).2.2.1 rfl
  · simp at h
  · have h1 := ((dig_val q.time.toNat).2.1 10 h).1
    have h2 : (10 : UInt8).toNat = 10 := rfl
    omega
  · unfold zs at h
    split at h <;> simp at h
  · exact two_no _ (by unfold zh; omega) h
  · exact two_no _ (by unfold zm; omega) h
theorem kN_no (k : Int) : (10 : UInt8) ∉ (kN k).data.toList := by
  unfold kN
  split
  · decide
  · split
    · decide
    · split
      · decide
      · split <;> decide
theorem name_no (s : List UInt8) (h : okN s) : (10 : UInt8) ∉ s := fun hm => absurd (h.2.2 10 hm) (by decide)
theorem tag_ln (t : Tg) (hz : ∀ n ∈ t.id, 0 ≤ n ∧ n < 256) (hg : okG t) : ∃ l1 l2 l3 l4, Ln (tagB t) wObject (hexB t.id) l1 ∧ Ln l1 wType (kN t.kind).data.toList l2 ∧ Ln l2 wTag t.name l3 ∧ Ln l3 wTagger (perB t.per) l4 ∧ l4 = 10 :: t.msg := by
  obtain ⟨l1, l2, l3, l4, e1, e2, e3, e4, e5⟩ := tag_lines t
  exact ⟨l1, l2, l3, l4, ⟨e1, hexB_no t.id hz⟩, ⟨e2, kN_no _⟩, ⟨e3, name_no _ hg.2.1⟩, ⟨e4, perB_no _ hg.2.2.1⟩, e5⟩
theorem tg_back (t T : Tg) (hl : t.id.length = 20) (hz : ∀ n ∈ t.id, 0 ≤ n ∧ n < 256) (hg : okG t) (h : TG (tagB t) T) : T = t := by
  obtain ⟨l1, l2, l3, l4, e1, e2, e3, e4, e5⟩ := tag_ln t hz hg
  obtain ⟨f1, r1⟩ := ln_fld e1 (by decide)
  obtain ⟨f2, r2⟩ := ln_fld e2 (by decide)
  obtain ⟨f3, r3⟩ := ln_fld e3 (by decide)
  obtain ⟨f4, r4⟩ := ln_fld e4 (by decide)
  have r5 : rst l4 = t.msg := by
    rw [e5]
    unfold rst
    rw [show (10 : UInt8) :: t.msg = [] ++ 10 :: t.msg from rfl, cut_one [] t.msg 10 (by simp)]
  obtain ⟨g1, ⟨k, g2, g2'⟩, g3, g4, g5⟩ := h
  rw [f1] at g1
  rw [r1, f2] at g2'
  rw [r1, r2, f3] at g3
  rw [r1, r2, r3, f4] at g4
  rw [r1, r2, r3, r4, r5] at g5
  have a1 := pid_back t.id T.id hl hz g1
  have a2 := kO_back t.kind hg.1 k g2'
  have a4 := pp_back t.per hg.2.2.1 T.per g4
  obtain ⟨x1, x2, x3, x4, x5⟩ := T
  obtain ⟨y1, y2, y3, y4, y5⟩ := t
  simp only at a1 a2 a4 g2 g3 g5
  subst a1
  subst g3
  subst a4
  subst g5
  rw [g2, a2]
end Go.Proofs.YtbpdielmdhhdfaaGreatDoor
