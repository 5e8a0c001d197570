import Derived.Test.YtbpdielmdhhdfaaGreatDoorMt38
import Derived.Test.YtbpdielmdhhdfaaGreatDoorMt30
/- The law 'ObjectTags': what its walk wants. -/
namespace Go.Proofs.YtbpdielmdhhdfaaGreatDoor
open Go.RowKit
set_option linter.unusedVariables false
set_option linter.unusedSimpArgs false
theorem Tryz.results27 : Tryz.f27.results = #[.cell 2 64] := by kernel_rfl
theorem perV_size (p : Per) : (perV p).size = 4 := rfl
set_option maxRecDepth 20000 in
theorem person_any (p : Per) (w : World) : Calls Tryz.prog 27 #[.agg (perV p)] w fun e w' => e = .returned (.agg (perV p)) ∧ Below w.heap.size w w' := by
  obtain ⟨N, HN⟩ : ∃ S : ByteArray, Hid (⟨p.name.toArray⟩ = S) := ⟨_, rfl⟩
  obtain ⟨M, HM⟩ : ∃ S : ByteArray, Hid (⟨p.mail.toArray⟩ = S) := ⟨_, rfl⟩
  obtain ⟨t, HT⟩ : ∃ t, Hid (p.time = t) := ⟨_, rfl⟩
  obtain ⟨z, HZ⟩ : ∃ z, Hid (p.zone = z) := ⟨_, rfl⟩
  have HPV : Hid (perV p = #[.string N, .string M, .int .i64 t, .int .i64 z]) := hid (by unfold perV; rw [HN.out, HM.out, HT.out, HZ.out])
  have HB : Hid (∀ o1 o2, Below w.heap.size w ((w.alloc o1).alloc o2)) := fun o1 o2 => ((Below.refl _ w).alloc (Nat.le_refl _) _).alloc (by simp) _
  rw [HPV.out]
  go_enter Tryz.func27, Tryz.ntmps27
  go_wp2
  have hr : World.rangeAt ((w.alloc (.cells #[.string N, .string M, .int .i64 t, .int .i64 z] 58)).alloc (.cells #[.string N, .string M, .int .i64 t, .int .i64 z] 64)) (w.heap.size + 1) 0 [.string N, .string M, .int .i64 t, .int .i64 z] := by
    have := heap_alloc_new (w.alloc (.cells #[.string N, .string M, .int .i64 t, .int .i64 z] 58)) (.cells #[.string N, .string M, .int .i64 t, .int .i64 z] 64)
    simp only [World.size_alloc] at this
    exact range_row this
  exact bodyPost_ret (v := .agg #[.string N, .string M, .int .i64 t, .int .i64 z]) (results_mid Tryz.results27 _ _ (w.heap.size + 1) _ _ rfl hr Tryz.underlying64 rfl Tryz.size64) rfl ⟨rfl, HB.out _ _⟩
set_option maxRecDepth 20000 in
theorem samePerson_any (p : Per) (w : World) : Calls Tryz.prog 63 #[.agg (perV p), .agg (perV p)] w fun e w' => e = .returned (.bool true) ∧ Below w.heap.size w w' := by
  obtain ⟨N, HN⟩ : ∃ S : ByteArray, Hid (⟨p.name.toArray⟩ = S) := ⟨_, rfl⟩
  obtain ⟨M, HM⟩ : ∃ S : ByteArray, Hid (⟨p.mail.toArray⟩ = S) := ⟨_, rfl⟩
  obtain ⟨t, HT⟩ : ∃ t, Hid (p.time = t) := ⟨_, rfl⟩
  obtain ⟨z, HZ⟩ : ∃ z, Hid (p.zone = z) := ⟨_, rfl⟩
  have HPV : Hid (perV p = #[.string N, .string M, .int .i64 t, .int .i64 z]) := hid (by unfold perV; rw [HN.out, HM.out, HT.out, HZ.out])
  have HB : Hid (∀ o1 o2, Below w.heap.size w ((w.alloc o1).alloc o2)) := fun o1 o2 => ((Below.refl _ w).alloc (Nat.le_refl _) _).alloc (by simp) _
  rw [HPV.out]
  go_enter Tryz.func63, Tryz.ntmps63
  go_wp2
  go_ret
  exact ⟨rfl, HB.out _ _⟩
set_option maxRecDepth 20000 in
theorem built75 (t : Tg) (h : t.id.length = 20) : Tryz.prog.built 75 [(0, .agg (row .u8 t.id).toArray), (1, .int .i64 t.kind), (2, .string ⟨t.name.toArray⟩), (3, .agg (perV t.per)), (4, .string ⟨t.msg.toArray⟩)] = some (tgV t).toArray := by
  obtain ⟨a0, a1, a2, a3, a4, a5, a6, a7, a8, a9, a10, a11, a12, a13, a14, a15, a16, a17, a18, a19, e⟩ := list20 t.id h
  unfold tgV
  rw [e]
  kernel_rfl
/-- A tag in a block of its own. -/
structure Bx (H : Nat) (TV : List Value) (ty : TypeId) (W : World) : Prop where
  box : W.heap[H]? = some (.cells TV.toArray ty (0, 0))
theorem Bx.below {H : Nat} {TV : List Value} {ty : TypeId} {W W' : World} (h : Bx H TV ty W) (hb : Below W.heap.size W W') : Bx H TV ty W' := ⟨(hb.block _ (lt_of_some h.box)).trans h.box⟩
theorem Bx.grown {H : Nat} {TV : List Value} {ty : TypeId} {W W' : World} {r : Nat} (h : Bx H TV ty W) (hg : W.grownBy W' (some r)) (hne : H ≠ r) : Bx H TV ty W' := ⟨(hg.block _ (lt_of_some h.box) (by simp; exact hne)).trans h.box⟩
theorem Bx.lt {H : Nat} {TV : List Value} {ty : TypeId} {W : World} (h : Bx H TV ty W) : H < W.heap.size := lt_of_some h.box
/-- The cells of a tag's block. -/
theorem Bx.cells {H : Nat} {ty : TypeId} {W : World} {t : Tg} {TV : List Value} (h : Bx H TV ty W) (hv : tgV t = TV) (hl : t.id.length = 20) : BoxG H t W ∧ W.rangeAt H 22 (perV t.per).toList ∧ W.rangeAt H 0 TV := by
  subst hv
  have hr := range_row h.box
  have hlr : (row .u8 t.id).length = 20 := by rw [row_len]; exact hl
  have g : ∀ (i : Nat) (v : Value), (tgV t)[i]? = some v → W.cell? ⟨H, i, none⟩ = some v := fun i v hv => by
    have := hr i v hv
    rwa [Nat.zero_add] at this
  have g2 : ∀ (i : Nat) (v : Value), ([.int .i64 t.kind, .string ⟨t.name.toArray⟩, .string ⟨t.per.name.toArray⟩, .string ⟨t.per.mail.toArray⟩, .int .i64 t.per.time, .int .i64 t.per.zone, .string ⟨t.msg.toArray⟩] : List Value)[i]? = some v → W.cell? ⟨H, 20 + i, none⟩ = some v := fun i v hv => by
    apply g
    unfold tgV
    rw [List.getElem?_append_right (by omega), hlr, Nat.add_sub_cancel_left]
    exact hv
  refine ⟨⟨fun j v hv => ?_, g2 0 _ rfl, g2 1 _ rfl, g2 2 _ rfl, g2 3 _ rfl, g2 4 _ rfl, g2 5 _ rfl, g2 6 _ rfl⟩, ?_, hr⟩
  · refine hr j v ?_
    unfold tgV
    rw [List.getElem?_append_left (by obtain ⟨h1, _⟩ := List.getElem?_eq_some_iff.1 hv; exact h1)]
    exact hv
  · intro j v hv
    match j, hv with
    | 0, hv => exact (g2 2 _ rfl).trans hv
    | 1, hv => exact (g2 3 _ rfl).trans hv
    | 2, hv => exact (g2 4 _ rfl).trans hv
    | 3, hv => exact (g2 5 _ rfl).trans hv
    | j + 4, hv => simp [perV] at hv
theorem Sl.grown' {w w' : World} {a : Option Addr} {cap : Nat} {l : List Int} {r : Nat} (h : Sl w a cap l) (hg : w.grownBy w' (some r)) (hne : ∀ b off, a = some ⟨b, off, none⟩ → b ≠ r) : Sl w' a cap l :=
  h.grown hg (fun b off e e2 => hne b off e (by simpa using e2))
theorem tagB_len (t : Tg) (hl : t.id.length = 20) (h : okG t) : (tagB t).length ≤ 200000 := by
  have h1 := h.2.1.2.1
  have h2 := perB_len t.per h.2.2.1
  have h3 : t.msg.length ≤ 2000 := by
    have := h.2.2.2
    unfold isMsg at this
    rw [Bool.and_eq_true] at this
    exact of_decide_eq_true this.1
  have h4 : (kN t.kind).data.toList.length ≤ 10 := kN_len10 t.kind
  have h5 := hexB_len t.id
  simp only [tagB, ln2, List.length_append, List.length_cons, List.length_nil, h5, hl]
  have e1 : w_object.data.toList.length = 6 := rfl
  have e2 : w_type.data.toList.length = 4 := rfl
  have e3 : w_tag.data.toList.length = 3 := rfl
  have e4 : w_tagger.data.toList.length = 6 := rfl
  omega
end Go.Proofs.YtbpdielmdhhdfaaGreatDoor
/- The law's 'readsTag'. -/
namespace Go.Proofs.YtbpdielmdhhdfaaGreatDoor
open Go.RowKit
set_option linter.unusedVariables false
set_option linter.unusedSimpArgs false
set_option maxRecDepth 20000 in
set_option maxHeartbeats 4000000 in
theorem readsTag_any (a : Option Addr) (cap : Nat) (zs : List Int) (w : World) (hl : zs.length ≤ 200000) (hz : IsB zs) (hS : Sl w a cap zs) (hw : Lw w) (he : Ers w) :
    Calls Tryz.prog 29 #[.slice a zs.length cap] w fun e w' => e = .returned (.bool true) ∧ Below w.heap.size w w' := by
  obtain ⟨n, HN⟩ : ∃ n, Hid (zs.length = n) := ⟨_, rfl⟩
  obtain ⟨G, HG⟩ : ∃ G, Hid (w.heap.size = G) := ⟨_, rfl⟩
  obtain ⟨l, HL⟩ : ∃ l, Hid (Lib.bytesOf zs = l) := ⟨_, rfl⟩
  obtain ⟨ZV, HZ⟩ : ∃ l : List Value, Hid (l = tgV (tg0 z20)) := ⟨_, rfl⟩
  have hz71 : ∀ w : World, (zeroValue 71).run Tryz.prog w = .ok (.agg ZV.toArray) w := fun w => by rw [HZ.out]; exact zero71 w
  have hz75 : ∀ w : World, (zeroValue 75).run Tryz.prog w = .ok (.agg ZV.toArray) w := fun w => by rw [HZ.out]; exact zero75 w
  have HZL : Hid (ZV.length = 27) := hid (by rw [HZ.out]; exact tgV_len _ rfl)
  have HLW : Hid (∀ W, Below G w W → Lw W) := fun W hW => hw.below (by rw [HG.out]; exact hW)
  have HER : Hid (∀ W, Below G w W → Ers W) := fun W hW => he.below (by rw [HG.out]; exact hW)
  have HSS : Hid (∀ W, Below G w W → Sl W a cap zs) := fun W hW => hS.below (by rw [HG.out]; exact hW)
  have HSB : Hid (0 < zs.length → ∃ b off, a = some ⟨b, off, none⟩ ∧ b < G) := fun h0 => by
    obtain ⟨b, off, e1, e2, _⟩ := hS.at_ h0
    exact ⟨b, off, e1, by rw [← HG.out]; exact e2⟩
  have HR8 : Hid (Calls Tryz.prog 8 #[.slice a n cap] w fun e w' => e = .returned (.slice (some ⟨G, 0, none⟩) n (n + 2)) ∧ Below G w w' ∧ Room w' G zs) := by
    have := roomy_any a cap zs w (by omega) hS.at_
    rw [HN.out, HG.out] at this
    exact this
  have HRT : Hid (∀ W, Below G w W → Room W G zs → Calls Tryz.prog 67 #[.slice (some ⟨G, 0, none⟩) n (n + 2)] W fun e w' => Below W.heap.size W w' ∧ PostB l e) := fun W hW hr => by
    have := readTag_any (some ⟨G, 0, none⟩) (zs.length + 2) zs hl hz W (HLW.out W hW).tab (HER.out W hW) (HLW.out W hW).mx hr.sl
    rw [HN.out, HL.out] at this
    exact this
  have HRR : Hid (∀ W, Below G w W → Calls Tryz.prog 68 #[.slice a n cap] W fun e w' => Below W.heap.size W w' ∧ PostRT l e) := fun W hW => by
    have := readTagR_any a cap zs hl W (HSS.out W hW)
    rw [HN.out, HL.out] at this
    exact this
  have HST : Hid (∀ W, Below G w W → Room W G zs → Calls Tryz.prog 12 #[.slice (some ⟨G, 0, none⟩) n (n + 2), .slice a n cap] W fun e w' => e = .returned (.bool true) ∧ W.grownBy w' (some G)) := fun W hW hr => by
    have := still_keep a cap G zs W (by omega) hz hr (fun h0 => by
      obtain ⟨b, off, e1, e2, e3⟩ := (HSS.out W hW).at_ h0
      obtain ⟨b', off', e1', e2'⟩ := HSB.out h0
      rw [e1] at e1'
      cases e1'
      exact ⟨b, off, e1, e2', e3⟩)
    rw [HN.out] at this
    exact this
  have HTE : Hid (∀ W, Below G w W → Calls Tryz.prog 11 #[.iface 35 (.int .i64 23)] W fun e w' => e = .returned (.int .i64 23) ∧ Below W.heap.size W w') := fun W hW => tell_errno 23 W (HLW.out W hW).hand
  rw [HN.out, HG.out]
  clear hS hw he
  go_enter Tryz.func29, Tryz.ntmps29
  go_wp2_with fail
  refine HR8.out.mono ?_
  rintro ev w1 ⟨rfl, hb1, hr1⟩
  have HB1 : Hid (Below G w w1) := hb1
  have HR1 : Hid (Room w1 G zs) := hr1
  have hG1 : G < w1.heap.size := hr1.lt
  clear hb1 hr1
  go_wp2_with fail
  refine (HRT.out w1 HB1.out HR1.out).mono ?_
  rintro ev w2 ⟨hb2, T, htg, ⟨⟨hok, heq⟩, rfl⟩ | ⟨hno, rfl⟩⟩
  · have HWT : Hid (Wf T) := ⟨htg.1.1, htg.1.2.1⟩
    have HTG : Hid (TG l T) := htg
    have HOK : Hid (okG T) := hok
    have HEQ : Hid (tagB T = l) := heq
    have hb2s := hb2.size
    clear htg hok heq
    obtain ⟨TV, HTV⟩ : ∃ l : List Value, Hid (tgV T = l) := ⟨_, rfl⟩
    have HVL : Hid (TV.length = 27) := hid (by rw [← HTV.out]; exact tgV_len T HWT.out.1)
    have I71 : Hid ((Tryz.prog.info? 71).map (·.size) = some TV.toArray.size) := hid (by rw [List.size_toArray, HVL.out]; exact Tryz.size71)
    have I75 : Hid ((Tryz.prog.info? 75).map (·.size) = some TV.toArray.size) := hid (by rw [List.size_toArray, HVL.out]; exact Tryz.size75)
    have O1 : Hid (TV.toArray.all (·.oneCell') = true) := hid (by rw [← HTV.out]; exact all_oneCell_toArray (tgV_one T))
    have D1 : Hid (ZV.toArray.size = TV.toArray.size) := hid (by rw [List.size_toArray, List.size_toArray, HZL.out, HVL.out])
    have D0 : Hid ((w2.alloc (.cells ZV.toArray 71)).heap[w2.heap.size]? = some (.cells ZV.toArray 71 (0, 0))) := heap_alloc_new w2 _
    obtain ⟨w3, HW3⟩ : ∃ w3, Hid ((w2.alloc (.cells ZV.toArray 71)).setRow w2.heap.size TV.toArray = w3) := ⟨_, rfl⟩
    obtain ⟨H, HH⟩ : ∃ H, Hid (w2.heap.size = H) := ⟨_, rfl⟩
    have hGH : G < H := by rw [← HH.out]; omega
    have hb23 : Below w2.heap.size w2 w3 := by rw [← HW3.out]; exact below_setRow ((Below.refl _ w2).alloc (Nat.le_refl _) _) (Nat.le_refl _) _
    have hb3 : Below w1.heap.size w1 w3 := hb2.trans (hb23.mono hb2.size)
    have BX3 : Hid (Bx H TV 71 w3) := ⟨by rw [← HW3.out, ← HH.out]; exact setRow_heap _ _ _ TV.toArray _ _ D0.out⟩
    have HB3 : Hid (Below G w w3) := HB1.out.trans (hb3.mono (by omega))
    have HR3 : Hid (Room w3 G zs) := HR1.out.below hb3
    clear hb2 hb3 hb23
    rw [HTV.out]
    go_wp2_with (first
      | (refine wpList_store_row rfl 71 _ _ rfl w2.heap.size TV.toArray rfl rfl 71 ZV.toArray D0.out I71.out D1.out O1.out ?_; rw [HW3.out, HH.out])
      | fail)
    refine (tell_nil w3).mono ?_
    rintro ev w4 ⟨rfl, hb4⟩
    have hb4s := hb4.size
    have HB4 : Hid (Below G w w4) := HB3.out.trans (hb4.mono (Nat.le_of_lt (Nat.lt_of_lt_of_le hG1 (Nat.le_trans hb2s (by have := BX3.out.lt; have := HH.out; omega)))))
    have HR4 : Hid (Room w4 G zs) := HR3.out.below hb4
    have BX4 : Hid (Bx H TV 71 w4) := BX3.out.below hb4
    clear hb4
    go_wp2_with fail
    refine (HST.out w4 HB4.out HR4.out).mono ?_
    rintro ev w5 ⟨rfl, hg5⟩
    have HB5 : Hid (Below G w w5) := HB4.out.grown hg5 (Nat.le_of_lt HR4.out.lt) (fun k hk => by cases hk; exact Nat.le_refl _)
    have BX5 : Hid (Bx H TV 71 w5) := BX4.out.grown hg5 (by omega)
    clear hg5
    go_wp2_with fail
    refine (HRR.out w5 HB5.out).mono ?_
    rintro ev w6 ⟨hb6, t, b, rfl, hwf, h1, h2⟩
    have hbt := h2 T HWT.out HOK.out HEQ.out
    subst hbt
    obtain ⟨g1, g2⟩ := h1 rfl
    have htT := tg_back t T hwf.1 hwf.2 g1 (by rw [g2]; exact HTG.out)
    subst htT
    clear h1 h2 g1 g2 hwf
    have hb6s := hb6.size
    have BX6 : Hid (Bx H TV 71 w6) := BX5.out.below hb6
    obtain ⟨w7, HW7⟩ : ∃ w7, Hid ((w6.alloc (.cells ZV.toArray 75)).setRow w6.heap.size TV.toArray = w7) := ⟨_, rfl⟩
    obtain ⟨J, HJ⟩ : ∃ J, Hid (w6.heap.size = J) := ⟨_, rfl⟩
    have D6 : Hid ((w6.alloc (.cells ZV.toArray 75)).heap[w6.heap.size]? = some (.cells ZV.toArray 75 (0, 0))) := heap_alloc_new w6 _
    have hb67 : Below w6.heap.size w6 w7 := by rw [← HW7.out]; exact below_setRow ((Below.refl _ w6).alloc (Nat.le_refl _) _) (Nat.le_refl _) _
    have BX7 : Hid (Bx H TV 71 w7) := BX6.out.below hb67
    have BY7 : Hid (Bx J TV 75 w7) := ⟨by rw [← HW7.out, ← HJ.out]; exact setRow_heap _ _ _ TV.toArray _ _ D6.out⟩
    have HB7 : Hid (Below G w w7) := HB5.out.trans ((hb6.trans (hb67.mono hb6.size)).mono (Nat.le_of_lt (by have := BX5.out.lt; omega)))
    clear hb6 hb67
    rw [HTV.out]
    obtain ⟨PV, HPV⟩ : ∃ l : List Value, Hid ((perV T.per).toList = l) := ⟨_, rfl⟩
    have CS : Hid (∀ W, Calls Tryz.prog 63 #[.agg PV.toArray, .agg PV.toArray] W fun e w' => e = .returned (.bool true) ∧ Below W.heap.size W w') := fun W => by rw [← HPV.out]; exact samePerson_any T.per W
    have R7 : Hid (w7.rangeAt H 22 PV) := hid (by rw [← HPV.out]; exact (BX7.out.cells HTV.out HWT.out.1).2.1)
    have S7 : Hid (w7.rangeAt J 22 PV) := hid (by rw [← HPV.out]; exact (BY7.out.cells HTV.out HWT.out.1).2.1)
    have hi58 : (Tryz.prog.info? 58).map (·.size) = some PV.length := by rw [← HPV.out]; exact Tryz.size58
    have hi64 : (Tryz.prog.info? 64).map (·.size) = some PV.length := by rw [← HPV.out]; exact Tryz.size64
    go_wp2_with (first
      | (refine wpList_store_row rfl 75 _ _ rfl w6.heap.size TV.toArray rfl rfl 75 ZV.toArray D6.out I75.out D1.out O1.out ?_; rw [HW7.out, HJ.out])
      | refine wpList_load_mid rfl 58 _ rfl H 22 rfl PV _ R7.out Tryz.underlying58 rfl hi58 ?_
      | refine wpList_load_mid rfl 64 _ rfl J 22 rfl PV _ S7.out Tryz.underlying64 rfl hi64 ?_
      | fail)
    refine (CS.out w7).mono ?_
    rintro ev w8 ⟨rfl, hb8⟩
    have BX8 : Hid (Bx H TV 71 w8) := BX7.out.below hb8
    have BY8 : Hid (Bx J TV 75 w8) := BY7.out.below hb8
    have HB8 : Hid (Below G w w8) := HB7.out.trans (hb8.mono (by have := BX7.out.lt; omega))
    clear hb8 hz71 hz75
    obtain ⟨RF, HRF⟩ : ∃ R : List Value, Hid (row .u8 T.id = R) := ⟨_, rfl⟩
    have hsm : ∀ w : World, (Op.equalIn 10000 32 (.agg RF.toArray) (.agg RF.toArray)).run Tryz.prog w = .ok true w := fun w => by rw [← HRF.out]; exact same25 T.id HWT.out.1 w
    have hi32 : (Tryz.prog.info? 32).map (·.size) = some RF.length := by rw [← HRF.out, row_len, HWT.out.1]; exact Tryz.size32
    have hi31 : (Tryz.prog.info? 31).map (·.size) = some RF.length := by rw [← HRF.out, row_len, HWT.out.1]; exact Tryz.size31
    obtain ⟨kd, HKD⟩ : ∃ k, Hid (T.kind = k) := ⟨_, rfl⟩
    obtain ⟨N, HNN⟩ : ∃ S : ByteArray, Hid (⟨T.name.toArray⟩ = S) := ⟨_, rfl⟩
    obtain ⟨M, HMM⟩ : ∃ S : ByteArray, Hid (⟨T.msg.toArray⟩ = S) := ⟨_, rfl⟩
    have QH : Hid (w8.rangeAt H 0 RF) := hid (by rw [← HRF.out]; exact (BX8.out.cells HTV.out HWT.out.1).1.id)
    have QJ : Hid (w8.rangeAt J 0 RF) := hid (by rw [← HRF.out]; exact (BY8.out.cells HTV.out HWT.out.1).1.id)
    have x20 : w8.cell? ⟨H, 20, none⟩ = some (.int .i64 kd) := by rw [← HKD.out]; exact (BX8.out.cells HTV.out HWT.out.1).1.c20
    have y20 : w8.cell? ⟨J, 20, none⟩ = some (.int .i64 kd) := by rw [← HKD.out]; exact (BY8.out.cells HTV.out HWT.out.1).1.c20
    have x21 : w8.cell? ⟨H, 21, none⟩ = some (.string N) := by rw [← HNN.out]; exact (BX8.out.cells HTV.out HWT.out.1).1.c21
    have y21 : w8.cell? ⟨J, 21, none⟩ = some (.string N) := by rw [← HNN.out]; exact (BY8.out.cells HTV.out HWT.out.1).1.c21
    have x26 : w8.cell? ⟨H, 26, none⟩ = some (.string M) := by rw [← HMM.out]; exact (BX8.out.cells HTV.out HWT.out.1).1.c26
    have y26 : w8.cell? ⟨J, 26, none⟩ = some (.string M) := by rw [← HMM.out]; exact (BY8.out.cells HTV.out HWT.out.1).1.c26
    go_wp2_with (first
      | (refine BigFrame.wpList_want (by rfl) (fun K hK => ?_); refine wp_load_mid 32 _ rfl H 0 rfl RF _ QH.out Tryz.underlying32 rfl hi32 ?_; refine hK _ _ ?_; clear hK K)
      | (refine BigFrame.wpList_want (by rfl) (fun K hK => ?_); refine wp_load_mid 31 _ rfl J 0 rfl RF _ QJ.out Tryz.underlying31 rfl hi31 ?_; refine hK _ _ ?_; clear hK K))
    go_ret
    exact ⟨rfl, HB8.out⟩
  · have HTG : Hid (TG l T) := htg
    have HNO : Hid (¬ (okG T ∧ tagB T = l)) := hno
    have hb2s := hb2.size
    clear htg hno
    obtain ⟨YV, HY⟩ : ∃ l : List Value, Hid (tgV (tg0 z20) = l) := ⟨_, rfl⟩
    rw [HY.out]
    have HYL : Hid (YV.length = 27) := hid (by rw [← HY.out]; exact tgV_len _ rfl)
    have I71 : Hid ((Tryz.prog.info? 71).map (·.size) = some YV.toArray.size) := hid (by rw [List.size_toArray, HYL.out]; exact Tryz.size71)
    have O1 : Hid (YV.toArray.all (·.oneCell') = true) := hid (by rw [← HY.out]; exact all_oneCell_toArray (tgV_one _))
    have D0 : Hid ((w2.alloc (.cells ZV.toArray 71)).heap[w2.heap.size]? = some (.cells ZV.toArray 71 (0, 0))) := heap_alloc_new w2 _
    obtain ⟨w3, HW3⟩ : ∃ w3, Hid ((w2.alloc (.cells ZV.toArray 71)).setRow w2.heap.size YV.toArray = w3) := ⟨_, rfl⟩
    obtain ⟨H, HH⟩ : ∃ H, Hid (w2.heap.size = H) := ⟨_, rfl⟩
    have hGH : G < H := by rw [← HH.out]; omega
    have hb23 : Below w2.heap.size w2 w3 := by rw [← HW3.out]; exact below_setRow ((Below.refl _ w2).alloc (Nat.le_refl _) _) (Nat.le_refl _) _
    have hb3 : Below w1.heap.size w1 w3 := hb2.trans (hb23.mono hb2.size)
    have BX3 : Hid (Bx H YV 71 w3) := ⟨by rw [← HW3.out, ← HH.out]; exact setRow_heap _ _ _ YV.toArray _ _ D0.out⟩
    have HB3 : Hid (Below G w w3) := HB1.out.trans (hb3.mono (by omega))
    have HR3 : Hid (Room w3 G zs) := HR1.out.below hb3
    clear hb2 hb3 hb23
    have D1 : Hid (ZV.toArray.size = YV.toArray.size) := hid (by rw [List.size_toArray, List.size_toArray, HZL.out, HYL.out])
    go_wp2_with (first
      | (refine wpList_store_row rfl 71 _ _ rfl w2.heap.size YV.toArray rfl rfl 71 ZV.toArray D0.out I71.out D1.out O1.out ?_; rw [HW3.out, HH.out])
      | fail)
    refine (HTE.out w3 HB3.out).mono ?_
    rintro ev w4 ⟨rfl, hb4⟩
    have HB4 : Hid (Below G w w4) := HB3.out.trans (hb4.mono (by have := BX3.out.lt; omega))
    have HR4 : Hid (Room w4 G zs) := HR3.out.below hb4
    have BX4 : Hid (Bx H YV 71 w4) := BX3.out.below hb4
    clear hb4
    go_wp2_with fail
    refine (HST.out w4 HB4.out HR4.out).mono ?_
    rintro ev w5 ⟨rfl, hg5⟩
    have HB5 : Hid (Below G w w5) := HB4.out.grown hg5 (Nat.le_of_lt HR4.out.lt) (fun k hk => by cases hk; exact Nat.le_refl _)
    have BX5 : Hid (Bx H YV 71 w5) := BX4.out.grown hg5 (by omega)
    clear hg5
    go_wp2_with fail
    refine (HRR.out w5 HB5.out).mono ?_
    rintro ev w6 ⟨hb6, t, b, rfl, hwf, h1, h2⟩
    have hbf : b = false := by
      cases b with
      | false => rfl
      | true =>
        obtain ⟨g1, g2⟩ := h1 rfl
        have htT := tg_back t T hwf.1 hwf.2 g1 (by rw [g2]; exact HTG.out)
        subst htT
        exact absurd ⟨g1, g2⟩ HNO.out
    subst hbf
    obtain ⟨TV, HTV⟩ : ∃ l : List Value, Hid (tgV t = l) := ⟨_, rfl⟩
    have HVL : Hid (TV.length = 27) := hid (by rw [← HTV.out]; exact tgV_len t hwf.1)
    have I75 : Hid ((Tryz.prog.info? 75).map (·.size) = some TV.toArray.size) := hid (by rw [List.size_toArray, HVL.out]; exact Tryz.size75)
    have O2 : Hid (TV.toArray.all (·.oneCell') = true) := hid (by rw [← HTV.out]; exact all_oneCell_toArray (tgV_one t))
    have D2 : Hid (ZV.toArray.size = TV.toArray.size) := hid (by rw [List.size_toArray, List.size_toArray, HZL.out, HVL.out])
    clear h1 h2 hwf
    have BX6 : Hid (Bx H YV 71 w6) := BX5.out.below hb6
    obtain ⟨w7, HW7⟩ : ∃ w7, Hid ((w6.alloc (.cells ZV.toArray 75)).setRow w6.heap.size TV.toArray = w7) := ⟨_, rfl⟩
    obtain ⟨J, HJ⟩ : ∃ J, Hid (w6.heap.size = J) := ⟨_, rfl⟩
    have D6 : Hid ((w6.alloc (.cells ZV.toArray 75)).heap[w6.heap.size]? = some (.cells ZV.toArray 75 (0, 0))) := heap_alloc_new w6 _
    have hb67 : Below w6.heap.size w6 w7 := by rw [← HW7.out]; exact below_setRow ((Below.refl _ w6).alloc (Nat.le_refl _) _) (Nat.le_refl _) _
    have BX7 : Hid (Bx H YV 71 w7) := BX6.out.below hb67
    have HB7 : Hid (Below G w w7) := HB5.out.trans ((hb6.trans (hb67.mono hb6.size)).mono (Nat.le_of_lt (by have := BX5.out.lt; omega)))
    clear hb6 hb67
    rw [HTV.out]
    have x20 : w7.cell? ⟨H, 20, none⟩ = some (.int .i64 0) := (BX7.out.cells HY.out rfl).1.c20
    have x21 : w7.cell? ⟨H, 21, none⟩ = some (.string ⟨#[]⟩) := (BX7.out.cells HY.out rfl).1.c21
    go_wp2_with (first
      | (refine wpList_store_row rfl 75 _ _ rfl w6.heap.size TV.toArray rfl rfl 75 ZV.toArray D6.out I75.out D2.out O2.out ?_; rw [HW7.out, HJ.out])
      | fail)
    go_ret
    exact ⟨rfl, HB7.out⟩
end Go.Proofs.YtbpdielmdhhdfaaGreatDoor
