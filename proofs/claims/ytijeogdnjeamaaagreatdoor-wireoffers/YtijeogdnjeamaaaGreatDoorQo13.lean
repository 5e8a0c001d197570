import Derived.Test.YtijeogdnjeamaaaGreatDoorQo12
import Derived.Test.YtijeogdnjeamaaaGreatDoorQo10
import Derived.Test.YtijeogdnjeamaaaGreatDoorQo06
import Derived.Test.YtijeogdnjeamaaaGreatDoorQo11
namespace Go.Proofs.YtijeogdnjeamaaaGreatDoor
open Go.RowKit
set_option linter.unusedVariables false
set_option linter.unusedSimpArgs false
theorem Tryz.results66 : Tryz.f66.results = #[.cell 6 24, .tmp 7] := by kernel_rfl
theorem Tryz.results36 : Tryz.f36.results = #[.cell 2 24, .tmp 3] := by kernel_rfl
def PostRBo (s : Str) (w : World) (G : Nat) (e : Ending) (w' : World) : Prop :=
  Below G w w' ∧ ((∃ h l a c, Ook s h l ∧ e = .returned (.tuple #[.agg #[.string ⟨h.toArray⟩, .slice a l.length c], .nilIface]) ∧ BRf w w' G (.slice a l.length c) l) ∨ ((¬ ∃ h l, Ook s h l) ∧ (∃ ls, okL ls ∧ s = pktL ls) ∧ e = .returned (.tuple #[.agg #[.string ⟨#[]⟩, .slice none 0 0], .iface 37 (.int .i64 111)])) ∨ ((¬ ∃ ls, okL ls ∧ s = pktL ls) ∧ e = .returned (.tuple #[.agg #[.string ⟨#[]⟩, .slice none 0 0], .iface 37 (.int .i64 110)])))
set_option maxRecDepth 20000 in
set_option maxHeartbeats 4000000 in
theorem readBackO_any {w : World} (a : Option Addr) (cap : Nat) (s : Str) (hP : PB w a cap s) (hl : s.length ≤ 8000) (he : Ers w) (hd : Db w) (hm : Nm.Mx w) (hsz1 : 1 < w.heap.size) :
    Calls Tryz.prog 66 #[.slice a s.length cap, .func (.func 67) #[] #[], .func (.func 7) #[] #[]] w (PostRBo s w w.heap.size) := by
  obtain ⟨G, HG⟩ : ∃ n, Hid (w.heap.size = n) := ⟨_, rfl⟩
  obtain ⟨m, HM⟩ : ∃ n, Hid (s.length = n) := ⟨_, rfl⟩
  obtain ⟨w1, HW1⟩ : ∃ u, Hid (w.alloc (.cells #[.string ⟨#[]⟩, .slice none 0 0] 24) = u) := ⟨_, rfl⟩
  have hs1 : w1.heap.size = G + 1 := by rw [← HW1.out, ← HG.out]; exact size_alloc _ _
  obtain ⟨w2, HW2⟩ : ∃ u, Hid (w1.alloc (.cells #[.string ⟨#[]⟩, .slice none 0 0] 24) = u) := ⟨_, rfl⟩
  have hs2 : w2.heap.size = G + 1 + 1 := by rw [← HW2.out, ← hs1]; exact size_alloc _ _
  have hb1 : Below G w w1 := by rw [← HW1.out, ← HG.out]; exact (Below.refl _ w).alloc (Nat.le_refl _) _
  have hb12 : Below w1.heap.size w1 w2 := by rw [← HW2.out]; exact (Below.refl _ w1).alloc (Nat.le_refl _) _
  have hb2 : Below G w w2 := hb1.trans (hb12.mono (by omega))
  have hx0 : Bx2 w2 G 24 (.string ⟨#[]⟩) (.slice none 0 0) := by
    have : Bx2 w1 G 24 (.string ⟨#[]⟩) (.slice none 0 0) := by rw [← HW1.out, ← HG.out]; exact Bx2.new _ _ _ _
    exact this.below hb12
  have hx1 : Bx2 w2 (G + 1) 24 (.string ⟨#[]⟩) (.slice none 0 0) := by rw [← HW2.out, ← hs1]; exact Bx2.new _ _ _ _
  have HPB : Hid (∀ W, Below G w W → PB W a cap s) := hid (fun W hW => hP.below (by rw [HG.out]; exact hW))
  have HWD : Hid (∀ W, Below G w W → Db W ∧ Ers W ∧ Nm.Mx W ∧ 1 < W.heap.size) := hid (fun W hW => by
    have hw : Below w.heap.size w W := by rw [HG.out]; exact hW
    exact ⟨hd.below hw, he.below hw, Mx_kept hm (grown_of_below hw none) (by simp), by have := hw.size; omega⟩)
  have C99 : Hid (Calls Tryz.prog 99 #[.slice a m cap] w2 (PostT s w2)) := hid (by
    rw [← HM.out]
    exact readTexts_any a cap s (HPB.out w2 hb2) (by omega) (HWD.out w2 hb2).2.1 (HWD.out w2 hb2).1)
  have HB2 := hid hb2
  have HS2 := hid hs2
  have HL8 := hid hl
  obtain ⟨d, hd1, hd2⟩ := und24
  have HD1 := hid hd1
  have HD2 := hid hd2
  have HEND : Hid (∀ X, Below w2.heap.size w2 X → X.rangeAt (G + 1) 0 [.string ⟨#[]⟩, .slice none 0 0] ∧ ∃ X', X.setCells G 0 (#[.string ⟨#[]⟩, .slice none 0 0] : Array Value).toList = X' ∧ X.there G 0 (#[.string ⟨#[]⟩, .slice none 0 0] : Array Value).size ∧ Below G w X' ∧ X'.rangeAt G 0 [.string ⟨#[]⟩, .slice none 0 0]) := hid (fun X hX => by
    have h0 := hx0.below hX
    have h1 := hx1.below hX
    obtain ⟨X', e1, e2, e3, e4⟩ := h0.put (.string ⟨#[]⟩) (.slice none 0 0)
    exact ⟨range_row h1, X', e1, e2, (hb2.trans (hX.mono (by omega))).grown e3 (by have := hX.size; omega) (fun k e => by cases e; omega), e4⟩)
  have HX0 := hid hx0
  have TZ2 : Hid ((Tryz.prog.info? 24).map (·.size) = some (#[.string ⟨#[]⟩, .slice none 0 0] : Array Value).size) := hid size24
  have TZ3 : Hid ((#[.string ⟨#[]⟩, .slice none 0 0] : Array Value).all (·.oneCell') = true) := hid (by simp [Value.oneCell'])
  have al1 : w.alloc (.cells #[.string ⟨#[]⟩, .slice none 0 0] 24) = w1 := HW1.out
  have al2 : w1.alloc (.cells #[.string ⟨#[]⟩, .slice none 0 0] 24) = w2 := HW2.out
  have hs0 : w.heap.size = G := HG.out
  rw [HM.out, HG.out]
  clear hP he hd hm hb1 hb12 hb2 hx0 hx1 hd1 hd2 hs2 hl hsz1
  go_enter Tryz.func66, Tryz.ntmps66
  go_wp2_with fail
  refine C99.out.mono ?_
  rintro e w3 ⟨hb3, ⟨ls, hok, hs, v, rfl, hbs⟩ | ⟨hno, rfl⟩⟩
  · obtain ⟨at', ct, rfl, hpt, _⟩ := hbs.px (d := []) (encS_len _)
    obtain ⟨ts, HTS⟩ : ∃ u, Hid (ls.map noEnd = u) := ⟨_, rfl⟩
    rw [HTS.out] at hpt
    rw [HTS.out]
    obtain ⟨k, HK⟩ : ∃ n, Hid (ts.length = n) := ⟨_, rfl⟩
    have htl : ts.length ≤ 20000 := by
      rw [← HTS.out, List.length_map]
      have h1 := pktL_cnt ls
      rw [← hs] at h1
      have := HL8.out
      omega
    have hts : ∀ t ∈ ts, t.length ≤ 1000 := fun t ht => by
      rw [← HTS.out] at ht
      obtain ⟨u, hu, rfl⟩ := List.mem_map.1 ht
      have h1 := noEnd_len u
      have h2 := hok u hu
      omega
    have HB3 := hid hb3
    have hgw3 : Below G w w3 := HB2.out.trans (hb3.mono (by rw [HS2.out]; omega))
    have C67 : Hid (Calls Tryz.prog 67 #[.slice at' k ct] w3 (PostRo ts w3 w3.heap.size)) := hid (by
      rw [← HK.out]
      exact readOffer_any at' ct ts hpt htl (fun t ht => Nat.le_trans (hts t ht) (by omega)) (HWD.out w3 hgw3).2.2.1)
    have HWF := hid (rdO_wf 1000 ts hts)
    have HOK := hid hok
    have HSS := hid hs
    rw [HK.out]
    clear hb3 hok hs hbs hpt htl hts hgw3
    go_wp2_with fail
    refine C67.out.mono ?_
    rintro e w4 ⟨a1, c1, rfl, hbi1⟩
    obtain ⟨h, HH⟩ : ∃ l, Hid ((rdO ts).1 = l) := ⟨_, rfl⟩
    obtain ⟨L, HL⟩ : ∃ l, Hid ((rdO ts).2 = l) := ⟨_, rfl⟩
    rw [HL.out] at hbi1
    rw [HH.out, HL.out]
    obtain ⟨X, HX⟩ : ∃ X : ByteArray, Hid (⟨h.toArray⟩ = X) := ⟨_, hid rfl⟩
    obtain ⟨n1, HN1⟩ : ∃ n, Hid (L.length = n) := ⟨_, rfl⟩
    have HIR : Hid (IdR L) := hid (fun x hx => by rw [← HL.out] at hx; exact (HWF.out.2 x hx).1)
    have hp1 : PRf w4 a1 c1 L := by
      obtain ⟨ax, cx, e1, hp, _⟩ := hbi1.px (d := rf0) (encR_ln HIR.out)
      injection e1 with e2 e3 e4
      rw [e2, e4]
      exact hp
    rw [HN1.out] at hbi1
    have HBI1 := hid hbi1
    have hfl : FitR L := fun x hx => by
      rw [← HL.out] at hx
      have := HWF.out.2 x hx
      exact ⟨by omega, this.1⟩
    have hhl : h.length ≤ 1000 := by rw [← HH.out]; exact HWF.out.1
    obtain ⟨P, HPP⟩ : ∃ n, Hid (w4.heap.size = n) := ⟨_, rfl⟩
    obtain ⟨w5, hw5, ht5, hb5, hr5⟩ := st_new w4 24 #[.string ⟨#[]⟩, .slice none 0 0] [.string X, .slice a1 n1 c1] rfl
    obtain ⟨wa, HWA⟩ : ∃ u, Hid (w4.alloc (.cells #[.string ⟨#[]⟩, .slice none 0 0] 24) = u) := ⟨_, rfl⟩
    rw [HWA.out, HPP.out] at hw5 ht5
    rw [HPP.out] at hr5
    have HW5 := hid hw5
    have T1 : Hid (wa.there P 0 (#[.string X, .slice a1 n1 c1] : Array Value).size) := hid ht5
    have T2 : Hid ((Tryz.prog.info? 24).map (·.size) = some (#[.string X, .slice a1 n1 c1] : Array Value).size) := hid size24
    have T3 : Hid ((#[.string X, .slice a1 n1 c1] : Array Value).all (·.oneCell') = true) := hid (by simp [Value.oneCell'])
    have R5 := hid hr5
    have HB5 := hid hb5
    have hb25 : Below w2.heap.size w2 w5 := (HB3.out.trans (hbi1.below.mono HB3.out.size)).trans (hb5.mono (by have := HB3.out.size; have := hbi1.below.size; omega))
    have HB25 := hid hb25
    have hgw5 : Below G w w5 := HB2.out.trans (hb25.mono (by have := HS2.out; omega))
    have C7 : Hid (Calls Tryz.prog 7 #[.agg #[.string X, .slice a1 n1 c1]] w5 (PostWo h L w5)) := hid (by
      rw [← HN1.out, ← HX.out]
      obtain ⟨q1, q2, q3, q4⟩ := HWD.out w5 hgw5
      exact writeOffer_any h (by omega) a1 c1 L (hp1.below hb5) hfl q3 q4 q1)
    have HWK : Hid (∀ h2 l2, Ook s h2 l2 → h2 = h ∧ l2 = L) := hid (fun h2 l2 k => by
      have h1 := ook_read k HOK.out HSS.out
      rw [HTS.out] at h1
      rw [← HH.out, ← HL.out, h1]
      exact ⟨rfl, rfl⟩)
    have HLS : Hid (∃ ls, okL ls ∧ s = pktL ls) := hid ⟨ls, HOK.out, HSS.out⟩
    have al4 : w4.alloc (.cells #[.string ⟨#[]⟩, .slice none 0 0] 24) = wa := HWA.out
    have hsP : w4.heap.size = P := HPP.out
    rw [HN1.out, HX.out]
    clear hbi1 hp1 hfl hhl hw5 ht5 hb5 hr5 hb25 hgw5
    go_wp2_with (first
      | (refine wpList_store_mid rfl 24 _ _ rfl P 0 #[.string X, .slice a1 n1 c1] rfl rfl T1.out T2.out T3.out ?_; rw [HW5.out])
      | (refine wpList_load_mid rfl 24 _ rfl P 0 rfl [.string X, .slice a1 n1 c1] _ R5.out HD1.out HD2.out size24 ?_)
      | fail)
    refine C7.out.mono ?_
    rintro e w6 ⟨hb6, ⟨h1, v, rfl, ho⟩ | ⟨h1, rfl⟩⟩
    · obtain ⟨a6, c6, rfl, hp6, _⟩ := own_pb ho
      obtain ⟨S, HSB⟩ : ∃ S, Hid (ofB h L = S) := ⟨_, rfl⟩
      rw [HSB.out] at hp6
      rw [HSB.out]
      obtain ⟨q, HQ⟩ : ∃ n, Hid (S.length = n) := ⟨_, rfl⟩
      have hb26 : Below w2.heap.size w2 w6 := HB25.out.trans (hb6.mono HB25.out.size)
      have C100 : Hid (Calls Tryz.prog 100 #[.slice a6 q c6, .slice a m cap] w6 fun e w' => e = .returned (.bool (S == s)) ∧ w' = w6) := hid (by
        rw [← HQ.out, ← HM.out]
        exact equal_any a6 c6 S hp6 a cap s (HPB.out w6 (HB2.out.trans (hb26.mono (by have := HS2.out; omega)))))
      have R6 : Hid (w6.rangeAt P 0 [.string X, .slice a1 n1 c1]) := hid (fun j v hv => (grown_of_below hb6 none).cell (R5.out j v hv) (by simp))
      obtain ⟨z0, W8, z1, z2, z3, z4⟩ := HEND.out w6 hb26
      obtain ⟨W9, y1, y2, y3, y4⟩ := (HX0.out.below hb26).put (.string X) (.slice a1 n1 c1)
      have Z0 := hid z0
      have Z1 := hid z1
      have Z2 := hid z2
      have Z3 := hid z3
      have Z4 := hid z4
      have Y1 := hid y1
      have Y2 := hid y2
      have Y4 := hid y4
      have hl3 := HB3.out.size
      have hl2 := HS2.out
      have hl4 := HBI1.out.below.size
      have hl6 := hb26.size
      have hk1 := own_keep (own_keep (own_keep HBI1.out.own (grown_of_below HB5.out none) (fun j e => by cases e)) (grown_of_below hb6 none) (fun j e => by cases e)) y3 (fun j e => by cases e; omega)
      have hbw9 : Below G w W9 := (HB2.out.trans (hb26.mono (by omega))).grown y3 (by omega) (fun k e => by cases e; omega)
      have F1 : Hid (BRf w W9 G (.slice a1 n1 c1) L) := hid ⟨hbw9, base_mono hk1 (by omega), by have := y3.size; omega⟩
      have HB9 := hid hbw9
      have H1 := hid h1
      rw [HQ.out]
      clear h1 ho hp6 hb6 hb26 z0 z1 z2 z3 z4 y1 y2 y3 y4 hl3 hl2 hl4 hl6 hk1 hbw9
      go_wp2_with fail
      refine C100.out.mono ?_
      rintro e w7 ⟨rfl, hw7⟩
      rw [hw7]
      clear hw7 w7
      by_cases hSs : S = s
      · have hbb : (S == s) = true := beq_t hSs
        have HGD : Hid (Ook s h L) := hid ⟨H1.out, HIR.out, by rw [HSB.out]; exact hSs.symm⟩
        rw [hbb]
        clear hbb hSs
        go_wp2_with (first
          | (refine wpList_load_mid rfl 24 _ rfl P 0 rfl [.string X, .slice a1 n1 c1] _ R6.out HD1.out HD2.out size24 ?_)
          | (refine wpList_store_mid rfl 24 _ _ rfl G 0 #[.string X, .slice a1 n1 c1] rfl rfl Y2.out T2.out T3.out ?_; rw [Y1.out])
          | fail)
        refine bodyPost_ret (Hx.results_mid2 (t2 := 27) Tryz.results66 _ _ G [.string X, .slice a1 n1 c1] _ _ rfl rfl Y4.out HD1.out HD2.out size24) rfl ?_
        exact ⟨HB9.out, .inl ⟨h, L, a1, c1, HGD.out, by rw [HX.out, HN1.out]; rfl, by rw [HN1.out]; exact F1.out⟩⟩
      · have hbb : (S == s) = false := beq_f hSs
        have HGD : Hid (¬ ∃ h l, Ook s h l) := hid (fun ⟨h2, l2, k⟩ => by
          obtain ⟨e1, e2⟩ := HWK.out h2 l2 k
          subst e1 e2
          exact hSs (by rw [← HSB.out]; exact k.b.symm))
        rw [hbb]
        clear hbb hSs
        go_wp2_with (first
          | (refine wpList_load_mid rfl 24 _ rfl (G + 1) 0 rfl [.string ⟨#[]⟩, .slice none 0 0] _ Z0.out HD1.out HD2.out size24 ?_)
          | (refine wpList_store_mid rfl 24 _ _ rfl G 0 #[.string ⟨#[]⟩, .slice none 0 0] rfl rfl Z2.out TZ2.out TZ3.out ?_; rw [Z1.out])
          | fail)
        refine bodyPost_ret (Hx.results_mid2 (t2 := 27) Tryz.results66 _ _ G [.string ⟨#[]⟩, .slice none 0 0] _ _ rfl rfl Z4.out HD1.out HD2.out size24) rfl ?_
        exact ⟨Z3.out, .inr (.inl ⟨HGD.out, HLS.out, rfl⟩)⟩
    · have hb26 : Below w2.heap.size w2 w6 := HB25.out.trans (hb6.mono HB25.out.size)
      obtain ⟨z0, W8, z1, z2, z3, z4⟩ := HEND.out w6 hb26
      have Z0 := hid z0
      have Z1 := hid z1
      have Z2 := hid z2
      have Z3 := hid z3
      have Z4 := hid z4
      have HGD : Hid (¬ ∃ h l, Ook s h l) := hid (fun ⟨h2, l2, k⟩ => by
        obtain ⟨e1, e2⟩ := HWK.out h2 l2 k
        subst e1 e2
        exact h1 k.ok)
      clear h1 hb6 hb26 z0 z1 z2 z3 z4
      go_wp2_with (first
        | (refine wpList_load_mid rfl 24 _ rfl (G + 1) 0 rfl [.string ⟨#[]⟩, .slice none 0 0] _ Z0.out HD1.out HD2.out size24 ?_)
        | (refine wpList_store_mid rfl 24 _ _ rfl G 0 #[.string ⟨#[]⟩, .slice none 0 0] rfl rfl Z2.out TZ2.out TZ3.out ?_; rw [Z1.out])
        | fail)
      refine bodyPost_ret (Hx.results_mid2 (t2 := 27) Tryz.results66 _ _ G [.string ⟨#[]⟩, .slice none 0 0] _ _ rfl rfl Z4.out HD1.out HD2.out size24) rfl ?_
      exact ⟨Z3.out, .inr (.inl ⟨HGD.out, HLS.out, rfl⟩)⟩
  · obtain ⟨z0, W8, z1, z2, z3, z4⟩ := HEND.out w3 hb3
    have Z0 := hid z0
    have Z1 := hid z1
    have Z2 := hid z2
    have Z3 := hid z3
    have Z4 := hid z4
    have HNO := hid hno
    clear hno hb3 z0 z1 z2 z3 z4
    go_wp2_with (first
      | (refine wpList_load_mid rfl 24 _ rfl (G + 1) 0 rfl [.string ⟨#[]⟩, .slice none 0 0] _ Z0.out HD1.out HD2.out size24 ?_)
      | (refine wpList_store_mid rfl 24 _ _ rfl G 0 #[.string ⟨#[]⟩, .slice none 0 0] rfl rfl Z2.out TZ2.out TZ3.out ?_; rw [Z1.out])
      | fail)
    refine bodyPost_ret (Hx.results_mid2 (t2 := 27) Tryz.results66 _ _ G [.string ⟨#[]⟩, .slice none 0 0] _ _ rfl rfl Z4.out HD1.out HD2.out size24) rfl ?_
    exact ⟨Z3.out, .inr (.inr ⟨HNO.out, rfl⟩)⟩
set_option maxRecDepth 20000 in
set_option maxHeartbeats 2000000 in
theorem readOfferB_any {w : World} (a : Option Addr) (cap : Nat) (s : Str) (hP : PB w a cap s) (hl : s.length ≤ 8000) (he : Ers w) (hd : Db w) (hm : Nm.Mx w) (hsz1 : 1 < w.heap.size) :
    Calls Tryz.prog 36 #[.slice a s.length cap] w (PostRBo s w w.heap.size) := by
  obtain ⟨G, HG⟩ : ∃ n, Hid (w.heap.size = n) := ⟨_, rfl⟩
  obtain ⟨m, HM⟩ : ∃ n, Hid (s.length = n) := ⟨_, rfl⟩
  obtain ⟨w1, HW1⟩ : ∃ u, Hid (w.alloc (.cells #[.string ⟨#[]⟩, .slice none 0 0] 24) = u) := ⟨_, rfl⟩
  have hs1 : w1.heap.size = G + 1 := by rw [← HW1.out, ← HG.out]; exact size_alloc _ _
  have hb1 : Below G w w1 := by rw [← HW1.out, ← HG.out]; exact (Below.refl _ w).alloc (Nat.le_refl _) _
  have hx0 : Bx2 w1 G 24 (.string ⟨#[]⟩) (.slice none 0 0) := by rw [← HW1.out, ← HG.out]; exact Bx2.new _ _ _ _
  have C66 : Hid (Calls Tryz.prog 66 #[.slice a m cap, .func (.func 67) #[] #[], .func (.func 7) #[] #[]] w1 (PostRBo s w1 w1.heap.size)) := hid (by
    have hw : Below w.heap.size w w1 := by rw [HG.out]; exact hb1
    rw [← HM.out]
    exact readBackO_any a cap s (hP.below hw) hl (he.below hw) (hd.below hw) (Mx_kept hm (grown_of_below hw none) (by simp)) (by have := hw.size; omega))
  obtain ⟨d, hd1, hd2⟩ := und24
  have HD1 := hid hd1
  have HD2 := hid hd2
  have HB1 := hid hb1
  have HS1 := hid hs1
  have HX0 := hid hx0
  have al1 : w.alloc (.cells #[.string ⟨#[]⟩, .slice none 0 0] 24) = w1 := HW1.out
  have hs0 : w.heap.size = G := HG.out
  rw [HM.out, HG.out]
  clear hP he hd hm hb1 hx0 hd1 hd2 hs1 hl hsz1
  go_enter Tryz.func36, Tryz.ntmps36
  go_wp2_with fail
  refine C66.out.mono ?_
  rintro e w2 ⟨hb2, ⟨h, l, a1, c1, hok, rfl, hbi⟩ | ⟨hno, hls, rfl⟩ | ⟨hno, rfl⟩⟩
  · obtain ⟨X, HX⟩ : ∃ X : ByteArray, Hid (⟨h.toArray⟩ = X) := ⟨_, hid rfl⟩
    obtain ⟨n1, HN1⟩ : ∃ n, Hid (l.length = n) := ⟨_, rfl⟩
    rw [HN1.out] at hbi
    obtain ⟨W9, y1, y2, y3, y4⟩ := (HX0.out.below hb2).put (.string X) (.slice a1 n1 c1)
    have Y1 := hid y1
    have Y2 := hid y2
    have Y4 := hid y4
    have T2 : Hid ((Tryz.prog.info? 24).map (·.size) = some (#[.string X, .slice a1 n1 c1] : Array Value).size) := hid size24
    have T3 : Hid ((#[.string X, .slice a1 n1 c1] : Array Value).all (·.oneCell') = true) := hid (by simp [Value.oneCell'])
    have hl2 := HS1.out
    have hl6 := hb2.size
    have hbw9 : Below G w W9 := (HB1.out.trans (hb2.mono (by omega))).grown y3 (by omega) (fun k e => by cases e; omega)
    have F1 : Hid (BRf w W9 G (.slice a1 n1 c1) l) := hid ⟨hbw9, base_mono (own_keep hbi.own y3 (fun j e => by cases e; omega)) (by omega), by have := y3.size; omega⟩
    have HB9 := hid hbw9
    have HOK := hid hok
    rw [HX.out, HN1.out]
    clear hb2 hok hbi y1 y2 y3 y4 hl2 hl6 hbw9
    go_wp2_with (first
      | (refine wpList_store_mid rfl 24 _ _ rfl G 0 #[.string X, .slice a1 n1 c1] rfl rfl Y2.out T2.out T3.out ?_; rw [Y1.out])
      | fail)
    refine bodyPost_ret (Hx.results_mid2 (t2 := 27) Tryz.results36 _ _ G [.string X, .slice a1 n1 c1] _ _ rfl rfl Y4.out HD1.out HD2.out size24) rfl ?_
    exact ⟨HB9.out, .inl ⟨h, l, a1, c1, HOK.out, by rw [HX.out, HN1.out]; rfl, by rw [HN1.out]; exact F1.out⟩⟩
  · obtain ⟨W9, y1, y2, y3, y4⟩ := (HX0.out.below hb2).put (.string ⟨#[]⟩) (.slice none 0 0)
    have Y1 := hid y1
    have Y2 := hid y2
    have Y4 := hid y4
    have T2 : Hid ((Tryz.prog.info? 24).map (·.size) = some (#[.string ⟨#[]⟩, .slice none 0 0] : Array Value).size) := hid size24
    have T3 : Hid ((#[.string ⟨#[]⟩, .slice none 0 0] : Array Value).all (·.oneCell') = true) := hid (by simp [Value.oneCell'])
    have hl2 := HS1.out
    have hl6 := hb2.size
    have HB9 : Hid (Below G w W9) := hid ((HB1.out.trans (hb2.mono (by omega))).grown y3 (by omega) (fun k e => by cases e; omega))
    have HNO := hid hno
    have HLS := hid hls
    clear hls
    clear hb2 y1 y2 y3 y4 hl2 hl6 hno
    go_wp2_with (first
      | (refine wpList_store_mid rfl 24 _ _ rfl G 0 #[.string ⟨#[]⟩, .slice none 0 0] rfl rfl Y2.out T2.out T3.out ?_; rw [Y1.out])
      | fail)
    refine bodyPost_ret (Hx.results_mid2 (t2 := 27) Tryz.results36 _ _ G [.string ⟨#[]⟩, .slice none 0 0] _ _ rfl rfl Y4.out HD1.out HD2.out size24) rfl ?_
    exact ⟨HB9.out, .inr (.inl ⟨HNO.out, HLS.out, rfl⟩)⟩
  · obtain ⟨W9, y1, y2, y3, y4⟩ := (HX0.out.below hb2).put (.string ⟨#[]⟩) (.slice none 0 0)
    have Y1 := hid y1
    have Y2 := hid y2
    have Y4 := hid y4
    have T2 : Hid ((Tryz.prog.info? 24).map (·.size) = some (#[.string ⟨#[]⟩, .slice none 0 0] : Array Value).size) := hid size24
    have T3 : Hid ((#[.string ⟨#[]⟩, .slice none 0 0] : Array Value).all (·.oneCell') = true) := hid (by simp [Value.oneCell'])
    have hl2 := HS1.out
    have hl6 := hb2.size
    have HB9 : Hid (Below G w W9) := hid ((HB1.out.trans (hb2.mono (by omega))).grown y3 (by omega) (fun k e => by cases e; omega))
    have HNO := hid hno
    clear hb2 y1 y2 y3 y4 hl2 hl6 hno
    go_wp2_with (first
      | (refine wpList_store_mid rfl 24 _ _ rfl G 0 #[.string ⟨#[]⟩, .slice none 0 0] rfl rfl Y2.out T2.out T3.out ?_; rw [Y1.out])
      | fail)
    refine bodyPost_ret (Hx.results_mid2 (t2 := 27) Tryz.results36 _ _ G [.string ⟨#[]⟩, .slice none 0 0] _ _ rfl rfl Y4.out HD1.out HD2.out size24) rfl ?_
    exact ⟨HB9.out, .inr (.inr ⟨HNO.out, rfl⟩)⟩
end Go.Proofs.YtijeogdnjeamaaaGreatDoor
namespace Go.Proofs.YtijeogdnjeamaaaGreatDoor
open Go.RowKit
set_option linter.unusedVariables false
set_option linter.unusedSimpArgs false
theorem nextcap_fit (s l : Str) (cap : Nat) (hl : s.length + l.length ≤ 100000000) (hr : ¬ s.length + l.length ≤ cap) : Builtin.nextslicecap (s.length + l.length) cap ≤ 281474976710656 := by
  have := nextslicecap_le (need := s.length + l.length) (old := cap) (by omega)
  omega
theorem app_mk_str (w : World) (g cap : Nat) (s l : Str) (hm : Mk w g cap s) (hl : s.length + l.length ≤ 100000000) :
    ∃ v w', (Builtin.append_ #[25, 9] 25 #[.slice (some ⟨g, 0, none⟩) s.length cap, .string ⟨l.toArray⟩]).run Tryz.prog w = .ok v w' ∧ Apd w w' g v (s ++ l) := by
  obtain ⟨i5, hi, hz0, hz1, hz2⟩ := info_parts Tryz.info5
  have hts : (⟨l.toArray⟩ : ByteArray).size = l.length := txt_len l
  by_cases hroom : s.length + l.length ≤ cap
  · have hf := Lib.run_firstCells_string (P := Tryz.prog) w 1 ⟨l.toArray⟩
    rw [bv_str, hts] at hf
    have hst := run_storeCells_cells (P := Tryz.prog) g s.length (bv l) 0 w (fun j hj => by
        rw [bv_len] at hj
        exact (hm.spare (s.length + 0 + j) (by omega) (by omega)).1) (fun j hj => by
        rw [bv_len] at hj
        exact (hm.spare (s.length + 0 + j) (by omega) (by omega)).2) (bv_one l)
    simp only [Nat.add_zero] at hst
    have hr : (Builtin.append_ #[25, 9] 25 #[.slice (some ⟨g, 0, none⟩) s.length cap, .string ⟨l.toArray⟩]).run Tryz.prog w = .ok (.slice (some ⟨g, 0, none⟩) (s.length + l.length) cap) (w.setCells g s.length (bv l)) := by
      simp [Builtin.append_, run_underlying Tryz.underlying25, run_underlying Tryz.underlying9, sizeOf, typeInfo, hi, hz1, Builtin.lenOf, hts, hroom, hf, Addr.add_lit, hst]
    exact ⟨_, _, hr, g, cap, by rw [List.length_append], mk_room hm l hroom, .inl rfl, grown_cells w g _ _⟩
  · have hr := Lib.run_append_grow_string (P := Tryz.prog) w 25 9 25 5 i5 (.int .u8 0) Tryz.underlying25 Tryz.underlying9 hi hz0 ⟨g, 0, none⟩ s.length cap (bv s) (by rw [hz1, bv_len]; simp) (fun j u hj => by rw [addr_add, Nat.zero_add]; exact hm.at_ j u hj) ⟨l.toArray⟩ (by rw [hts]; omega) (by rw [hts]; omega) (by
      rw [hz2, Nat.mul_one]
      exact nextcap_fit s l cap hl hroom)
    rw [hts, bv_str] at hr
    refine ⟨_, _, hr, w.heap.size, _, by rw [List.length_append], ?_, .inr (Nat.le_refl _), ⟨rfl, rfl, rfl, by simp, fun k hk _ => heap_alloc_old w.drew _ hk⟩⟩
    have hge := grownCap_ge w (s.length + l.length) cap 5
    have hh := heap_alloc_new w.drew (.cells ((bv s).toArray ++ (bv l).toArray ++ Builtin.zeroCells (Value.int .u8 0).cells (grownCap w (s.length + l.length) cap 5 - (s.length + l.length))) 5)
    have hzc : (Builtin.zeroCells (Value.int .u8 0).cells (grownCap w (s.length + l.length) cap 5 - (s.length + l.length))).size = grownCap w (s.length + l.length) cap 5 - (s.length + l.length) := by
      simp [Builtin.zeroCells, Value.cells]
    refine ⟨lt_of_some hh, by rw [List.length_append]; exact hge, fun j u hj => ?_, fun i h1 h2 => ⟨?_, frozen_of_row _ _ _ _ _ hh⟩⟩
    · rw [show (w.heap.size : Nat) = w.drew.heap.size from rfl, cell_of_row _ _ j _ _ _ hh]
      have hlt := (List.getElem?_eq_some_iff.1 hj).1
      rw [bv_len, List.length_append] at hlt
      rw [bv_app] at hj
      rw [Array.getElem?_append_left (by simp [bv_len]; omega)]
      simpa using hj
    · rw [show (w.heap.size : Nat) = w.drew.heap.size from rfl, cell_of_row _ _ i _ _ _ hh, Array.getElem?_eq_getElem (by
        rw [Array.size_append, hzc]
        simp [bv_len]
        omega)]
      rfl
structure Wmk (B : Nat) (w0 W : World) (v : Value) (S : Str) : Prop where
  bl : Below B w0 W
  le : B ≤ W.heap.size
  mks : (v = .slice none 0 0 ∧ S = []) ∨ ∃ g cap, v = .slice (some ⟨g, 0, none⟩) S.length cap ∧ B ≤ g ∧ Mk W g cap S
theorem Wmk.below {B : Nat} {w0 W W' : World} {v : Value} {S : Str} (h : Wmk B w0 W v S) (hb : Below W.heap.size W W') : Wmk B w0 W' v S :=
  ⟨h.bl.trans (hb.mono h.le), Nat.le_trans h.le hb.size, h.mks.imp id (fun ⟨g, cap, e, hg, hm⟩ => ⟨g, cap, e, hg, hm.below hb⟩)⟩
theorem Wmk.drew {B : Nat} {w0 W : World} {v : Value} {S : Str} (h : Wmk B w0 W v S) : Wmk B w0 W.drew v S := h.below (Below.refl _ _).drew
theorem Wmk.of_own {B : Nat} {w0 W : World} {v : Value} {S : Str} (h : Wst B w0 W v S) : Wmk B w0 W v S := ⟨h.bl, h.le, own_mk h.own⟩
theorem Wmk.of_apd {B g : Nat} {w0 W W' : World} {v : Value} {S : Str} (hbl : Below B w0 W) (hle : B ≤ W.heap.size) (hg : B ≤ g) (h : Apd W W' g v S) : Wmk B w0 W' v S := by
  obtain ⟨g', cap', e, hm, hor, hgr⟩ := h
  exact ⟨hbl.grown hgr hle (fun k e => by cases e; exact hg), Nat.le_trans hle hgr.size, .inr ⟨g', cap', e, by rcases hor with h | h <;> omega, hm⟩⟩
theorem Wmk.sl {B : Nat} {w0 W : World} {v : Value} {S : Str} (h : Wmk B w0 W v S) (b off c : Nat) (m : Str) (hP : PB W (some ⟨b, off, none⟩) c m) (hl : S.length + m.length ≤ 1000000) : ∃ v' W', (Builtin.append_ #[25, 25] 25 #[v, .slice (some ⟨b, off, none⟩) m.length c]).run Tryz.prog W = .ok v' W' ∧ Wmk B w0 W' v' (S ++ m) := by
  rcases h.mks with ⟨rfl, rfl⟩ | ⟨g, cap, rfl, hg, hm⟩
  · have hw : Wst B w0 W (.slice none 0 0) [] := ⟨⟨rfl, .inl ⟨rfl, rfl⟩⟩, h.bl, h.le⟩
    obtain ⟨v', W', hr, hs⟩ := hw.sl b off c m hP (by omega) 25
    exact ⟨v', W', hr, Wmk.of_own hs⟩
  · obtain ⟨v', W', hr, ha⟩ := app_mk W g cap S m (some ⟨b, off, none⟩) c hm hP (by omega)
    exact ⟨v', W', hr, Wmk.of_apd h.bl h.le hg ha⟩
theorem Wmk.str {B : Nat} {w0 W : World} {v : Value} {S : Str} (h : Wmk B w0 W v S) (m : Str) (hl : S.length + m.length ≤ 1000000) : ∃ v' W', (Builtin.append_ #[25, 9] 25 #[v, .string ⟨m.toArray⟩]).run Tryz.prog W = .ok v' W' ∧ Wmk B w0 W' v' (S ++ m) := by
  rcases h.mks with ⟨rfl, rfl⟩ | ⟨g, cap, rfl, hg, hm⟩
  · have hw : Wst B w0 W (.slice none 0 0) [] := ⟨⟨rfl, .inl ⟨rfl, rfl⟩⟩, h.bl, h.le⟩
    obtain ⟨v', W', hr, hs⟩ := hw.str m (by omega) 25
    exact ⟨v', W', hr, Wmk.of_own hs⟩
  · obtain ⟨v', W', hr, ha⟩ := app_mk_str W g cap S m hm (by omega)
    exact ⟨v', W', hr, Wmk.of_apd h.bl h.le hg ha⟩
theorem Wmk.pb {B : Nat} {w0 W : World} {v : Value} {S : Str} (h : Wmk B w0 W v S) : ∃ a c, v = .slice a S.length c ∧ PB W a c S := by
  rcases h.mks with ⟨rfl, rfl⟩ | ⟨g, cap, rfl, hg, hm⟩
  · exact ⟨none, 0, rfl, pb_none W⟩
  · exact ⟨_, cap, rfl, hm.pb⟩
end Go.Proofs.YtijeogdnjeamaaaGreatDoor
namespace Go.Proofs.YtijeogdnjeamaaaGreatDoor
open Go.RowKit
set_option linter.unusedVariables false
set_option linter.unusedSimpArgs false
theorem run_byt1 (x : UInt8) (w : World) : (Instr.buildSlice 25 1 #[(0, .int .u8 (x.toNat : Int))]).run Tryz.prog w = .ok (.slice (some ⟨w.heap.size, 0, none⟩) 1 1) (w.alloc (.cells #[.int .u8 (x.toNat : Int)] 5)) := by kernel_rfl
theorem pb_one (w : World) (x : UInt8) : PB (w.alloc (.cells #[.int .u8 (x.toNat : Int)] 5)) (some ⟨w.heap.size, 0, none⟩) 1 [x] :=
  pb_row (by simp) (range_row (heap_alloc_new w (.cells (bv [x]).toArray 5)))
theorem drop_byte (s : Str) (i : Nat) (h : i < s.length) : s.drop i = s.getD i 0 :: s.drop (i + 1) := by
  rw [List.drop_eq_getElem_cons h, List.getD_eq_getElem?_getD, List.getElem?_eq_getElem h]
  rfl
set_option maxRecDepth 20000 in
set_option maxHeartbeats 4000000 in
theorem words_any {w : World} (a : Option Addr) (cap : Nat) (s : Str) (hP : PB w a cap s) (hl : s.length ≤ 1000) :
    Calls Tryz.prog 69 #[.slice a s.length cap] w fun e w' => ∃ v, e = .returned v ∧ BS w w' w.heap.size v (wdsA [] s) := by
  obtain ⟨m, HM⟩ : ∃ n, Hid (s.length = n) := ⟨_, rfl⟩
  obtain ⟨G, HG⟩ : ∃ n, Hid (w.heap.size = n) := ⟨_, rfl⟩
  have hm : m ≤ 1000 := by rw [← HM.out]; exact hl
  have HPB : Hid (∀ W, Below G w W → PB W a cap s) := hid (fun W hW => hP.below (by rw [HG.out]; exact hW))
  have HPL : Hid (0 < m → ∃ b off, a = some ⟨b, off, none⟩) := hid (fun h => by
    obtain ⟨b, off, e1, _⟩ := hP.at_ (by rw [HM.out]; exact h)
    exact ⟨b, off, e1⟩)
  have S0 : Hid (BS w w G (.slice none 0 0) []) := hid (bs_nil w G HG.out.symm)
  rw [HM.out, HG.out]
  clear hP hl
  go_enter Tryz.func69, Tryz.ntmps69
  go_wp2_with fail
  go_loopg [3, 4, 5] m (fun gg lv cv iv wr => ∃ (i : Nat) (dn : List Str) (cu : Str) (C : ByteArray), i ≤ m ∧ gg = m - i ∧ iv = .int .i64 i ∧ cv = .string C ∧ Hid (⟨cu.toArray⟩ = C) ∧ Hid (BS w wr G lv dn) ∧ Hid (wdsA [] s = dn ++ wdsA cu (s.drop i)) ∧ Hid (dn.length + cu.length ≤ i))
  case atStart => exact ⟨0, [], [], ⟨#[]⟩, Nat.zero_le _, rfl, rfl, rfl, hid rfl, S0, hid (by simp), hid (by simp)⟩
  case round =>
    obtain ⟨i, dn, cu, C, hi, hk, rfl, rfl, HC, HBS, HWD, HLN⟩ := hrel
    have hdnl : dn.length ≤ 1000 := by have := HLN.out; omega
    obtain ⟨v9, W9, hr9, hb9⟩ := HBS.out.more (by omega) cu C HC.out 63
    have hbs9 := run_txt C wr
    obtain ⟨W8, HW8⟩ : ∃ W, Hid (wr.alloc (.cells #[.string C] 9) = W) := ⟨_, rfl⟩
    rw [HW8.out] at hr9 hbs9
    have HB9 := hid hb9
    clear hb9
    by_cases hlt : i < m
    · have hlti : (i : Int) < (m : Int) := by omega
      obtain ⟨b, off, rfl⟩ := HPL.out (by omega)
      have hil : i < s.length := by rw [HM.out]; exact hlt
      obtain ⟨x, HX⟩ : ∃ x, Hid (s.getD i 0 = x) := ⟨_, rfl⟩
      obtain ⟨c, HCX⟩ : ∃ c : Int, Hid ((x.toNat : Int) = c) := ⟨_, rfl⟩
      have kc : ∀ W, Hid (Below G w W) → W.cell? ⟨b, off + i, none⟩ = some (.int .u8 c) := fun W hW => by
        obtain ⟨b', off', e1, _, e3⟩ := (HPB.out W hW.out).at_ (by rw [HM.out]; omega)
        cases e1
        have := e3 i hil 0 _ rfl
        rw [show off + i * 1 + 0 = off + i by omega, HX.out, HCX.out] at this
        exact this
      have kc0 := kc wr (hid HBS.out.below)
      have HDR : Hid (s.drop i = x :: s.drop (i + 1)) := hid (by rw [drop_byte s i hil, HX.out])
      have HX10 : Hid (x = 10 ↔ c = 10) := hid (by
        rw [← HCX.out]
        constructor
        · intro h; rw [h]; rfl
        · intro h; exact UInt8.toNat_inj.1 (by have : (10 : UInt8).toNat = 10 := rfl; omega))
      have HX32 : Hid (x = 32 ↔ c = 32) := hid (by
        rw [← HCX.out]
        constructor
        · intro h; rw [h]; rfl
        · intro h; exact UInt8.toNat_inj.1 (by have : (32 : UInt8).toNat = 32 := rfl; omega))
      have HNI : Hid (s.drop (i + 1) = [] ↔ i + 1 = m) := hid (by
        rw [List.drop_eq_nil_iff, HM.out]
        omega)
      by_cases hend : c = 10 ∧ i + 1 = m
      · obtain ⟨hc10, him⟩ := hend
        have HF : Hid (BS w W9 G v9 (wdsA [] s)) := hid (by
          have h1 : wdsA cu (s.drop i) = [cu] := by rw [HDR.out, wdsA, if_pos ⟨HX10.out.2 hc10, HNI.out.2 him⟩]
          rw [HWD.out, h1]
          exact HB9.out)
        have him2 : ((i : Int) + 1 == (m : Int)) = true := by simp; omega
        have him3 : (i : Int) + 1 = (m : Int) := by omega
        clear hil kc
        rw [hc10] at kc0
        go_wp2_with (first | (refine wpList_bSY rfl 63 1 _ rfl (.string C) _ rfl hbs9 ?_) | (at_builtin; refine wpList_app rfl _ _ 63 63 rfl 63 rfl _ _ rfl rfl hr9 ?_) | fail)
        go_ret
        exact ⟨_, rfl, HF.out⟩
      · have HNE : Hid (¬ (x = 10 ∧ s.drop (i + 1) = [])) := hid (fun h => hend ⟨HX10.out.1 h.1, HNI.out.1 h.2⟩)
        by_cases hc32 : c = 32
        · have HW2 : Hid (wdsA [] s = (dn ++ [cu]) ++ wdsA [] (s.drop (i + 1))) := hid (by
            rw [HWD.out, HDR.out, wdsA, if_neg HNE.out, if_pos (HX32.out.2 hc32)]
            simp)
          have HL2 : Hid ((dn ++ [cu]).length + ([] : Str).length ≤ i + 1) := hid (by rw [List.length_append]; have := HLN.out; simp; omega)
          clear hil kc hend
          rw [hc32] at kc0
          go_wp2_with (first | (refine wpList_bSY rfl 63 1 _ rfl (.string C) _ rfl hbs9 ?_) | (at_builtin; refine wpList_app rfl _ _ 63 63 rfl 63 rfl _ _ rfl rfl hr9 ?_) | fail)
          go_roundg (m - (i + 1))
          case measure => omega
          case rel => exact ⟨i + 1, dn ++ [cu], [], ⟨#[]⟩, by omega, rfl, by go_num, rfl, hid rfl, HB9, HW2, HL2⟩
        · have hc32b : (c == 32) = false := by simp [hc32]
          have HW2 : Hid (wdsA [] s = dn ++ wdsA (cu ++ [x]) (s.drop (i + 1))) := hid (by
            rw [HWD.out, HDR.out, wdsA, if_neg HNE.out, if_neg (fun h => hc32 (HX32.out.1 h))])
          have HL2 : Hid (dn.length + (cu ++ [x]).length ≤ i + 1) := hid (by rw [List.length_append]; have := HLN.out; simp; omega)
          have rb := run_byt1 x wr
          obtain ⟨W6, HW6⟩ : ∃ W, Hid (wr.alloc (.cells #[.int .u8 (x.toNat : Int)] 5) = W) := ⟨_, rfl⟩
          have hpx := pb_one wr x
          rw [HW6.out] at rb hpx
          obtain ⟨P, HPP⟩ : ∃ n, Hid (wr.heap.size = n) := ⟨_, rfl⟩
          rw [HPP.out] at rb hpx
          obtain ⟨X1, HX1⟩ : ∃ X : ByteArray, Hid (⟨([x] : Str).toArray⟩ = X) := ⟨_, hid rfl⟩
          have hcv : (convert 25 9 (.slice (some ⟨P, 0, none⟩) 1 1)).run Tryz.prog W6 = .ok (.string X1) W6 := by
            have := conv_str hpx
            rw [sV_out, HX1.out] at this
            exact this
          rw [HCX.out] at rb
          obtain ⟨C2, HC2⟩ : ∃ X : ByteArray, Hid (⟨(cu ++ [x]).toArray⟩ = X) := ⟨_, hid rfl⟩
          have hcat : C ++ X1 = C2 := by rw [← HC.out, ← HX1.out, ← HC2.out]; exact str_app cu [x]
          obtain ⟨q, HQ⟩ : ∃ n, Hid (cu.length = n) := ⟨_, rfl⟩
          have hCs : C.size = q := by rw [← HC.out, txt_len]; exact HQ.out
          have hq : q ≤ 1000 := by rw [← HQ.out]; have := HLN.out; omega
          have hX1s : X1.size = 1 := by rw [← HX1.out]; rfl
          have HB6 : Hid (BS w W6 G u3 dn) := hid (by rw [← HW6.out]; exact Bx.alloc HBS.out _)
          by_cases hc10 : c = 10
          · have him : ¬ (i : Int) + 1 = (m : Int) := fun h => hend ⟨hc10, by omega⟩
            have him2 : ((i : Int) + 1 == (m : Int)) = false := by simp [him]
            clear hil kc hend hpx
            rw [hc10] at kc0 rb hc32b
            go_wp2_with (first | (refine wpList_bSY rfl 25 1 _ rfl (.int .u8 10) _ rfl rb ?_) | fail)
            go_roundg (m - (i + 1))
            case measure => omega
            case rel => exact ⟨i + 1, dn, cu ++ [x], C2, by omega, rfl, by go_num, rfl, HC2, HB6, HW2, HL2⟩
          · have hc10b : (c == 10) = false := by simp [hc10]
            clear hil kc hend hpx
            go_wp2_with (first | (refine wpList_bSY rfl 25 1 _ rfl (.int .u8 c) _ rfl rb ?_) | fail)
            go_roundg (m - (i + 1))
            case measure => omega
            case rel => exact ⟨i + 1, dn, cu ++ [x], C2, by omega, rfl, by go_num, rfl, HC2, HB6, HW2, HL2⟩
    · have hlti : ¬ (i : Int) < (m : Int) := by omega
      have HF : Hid (BS w W9 G v9 (wdsA [] s)) := hid (by
        have h1 : wdsA cu (s.drop i) = [cu] := by rw [List.drop_of_length_le (by rw [HM.out]; omega), wdsA]
        rw [HWD.out, h1]
        exact HB9.out)
      go_wp2_with (first | (refine wpList_bSY rfl 63 1 _ rfl (.string C) _ rfl hbs9 ?_) | (at_builtin; refine wpList_app rfl _ _ 63 63 rfl 63 rfl _ _ rfl rfl hr9 ?_) | fail)
      go_ret
      exact ⟨_, rfl, HF.out⟩
end Go.Proofs.YtijeogdnjeamaaaGreatDoor
namespace Go.Proofs.YtijeogdnjeamaaaGreatDoor
open Go.RowKit
set_option linter.unusedVariables false
set_option linter.unusedSimpArgs false
theorem enter33 (x : Value) (w : World) : (callFunc 33 #[x]).run Tryz.prog w = .ok (.enter 33 #[x]) w := by kernel_rfl
end Go.Proofs.YtijeogdnjeamaaaGreatDoor
namespace Go.Proofs.YtijeogdnjeamaaaGreatDoor
open Go.RowKit
set_option linter.unusedVariables false
set_option linter.unusedSimpArgs false
theorem enter34 (x : Value) (w : World) : (callFunc 34 #[x]).run Tryz.prog w = .ok (.enter 34 #[x]) w := by kernel_rfl
end Go.Proofs.YtijeogdnjeamaaaGreatDoor
namespace Go.Proofs.YtijeogdnjeamaaaGreatDoor
open Go.RowKit
set_option linter.unusedVariables false
set_option linter.unusedSimpArgs false
def PostLm (s : Str) (w : World) (e : Ending) (w' : World) : Prop := Below w.heap.size w w' ∧ ∃ g c, e = .returned (.slice (some ⟨g, 0, none⟩) (pkt s).length c) ∧ w.heap.size ≤ g ∧ Mk w' g c (pkt s)
set_option maxRecDepth 20000 in
theorem line_mk {w : World} (a : Option Addr) (cap : Nat) (s : Str) (hP : PB w a cap s) (h0 : ¬ s.length = 0) (hl : s.length ≤ 1000) : Calls Tryz.prog 60 #[.slice a s.length cap] w (PostLm s w) := by
  obtain ⟨n, HN⟩ : ∃ n, Hid (s.length = n) := ⟨_, rfl⟩
  have hn : n ≤ 1000 := by rw [← HN.out]; exact hl
  have hn0 : ((n : Int) == 0) = false := by rw [HN.out] at h0; simp; omega
  have C18 : Hid (Calls Tryz.prog 95 #[.int .i64 ((n : Int) + 4)] w fun e w' => e = .returned (.string ⟨(hx4 (n + 4)).toArray⟩) ∧ Below w.heap.size w w') := hid (digits_any (n + 4) (by omega) w)
  have HZ4 : Hid (szT n = hx4 (n + 4)) := hid (by unfold szT; rw [if_neg (by rw [← HN.out]; exact h0)])
  rw [← HZ4.out] at C18
  have HPB := hid hP
  obtain ⟨Z, HZ⟩ : ∃ Z : ByteArray, Hid (⟨(szT n).toArray⟩ = Z) := ⟨_, rfl⟩
  rw [HZ.out] at C18
  rw [HN.out]
  clear hP hl h0
  go_enter Tryz.func60, Tryz.ntmps60
  go_wp2_with fail
  refine C18.out.mono ?_
  rintro e w1 ⟨rfl, hb1⟩
  obtain ⟨c2, w2, hr2, hm2, hb2⟩ := conv_mk (szT n) w1
  rw [HZ.out, szT_len] at hr2
  obtain ⟨v3, w3, hr3, g3, c3, hv3, hm3, hor3, hg3⟩ := app_mk w2 w1.heap.size c2 (szT n) s a cap hm2 ((HPB.out.below hb1).below hb2) (by rw [szT_len, HN.out]; omega)
  rw [szT_len, HN.out] at hr3
  have HB3 : Hid (Below w.heap.size w w3) := hid (by
    have h1 : Below w.heap.size w w2 := hb1.trans (hb2.mono hb1.size)
    exact h1.grown hg3 (Nat.le_trans hb1.size hb2.size) (fun k hk => by cases hk; exact hb1.size))
  have HP3 : Hid (Mk w3 g3 c3 (pkt s)) := hid (by unfold pkt; rw [HN.out]; exact hm3)
  have HG3 : Hid (w.heap.size ≤ g3) := hid (by
    have h1 := hb1.size
    have h2 := hb2.size
    rcases hor3 with h | h <;> omega)
  have HV3 : Hid (v3 = .slice (some ⟨g3, 0, none⟩) (pkt s).length c3) := hid (by rw [hv3]; unfold pkt; rw [HN.out])
  clear hb1 hb2 hm2 hm3 hor3 hg3 hv3
  go_wp2_with (first | (at_builtin; refine wpList_app rfl _ _ 25 25 rfl 25 rfl _ _ rfl rfl hr3 ?_) | fail)
  go_wp2
  go_ret
  exact ⟨HB3.out, g3, c3, by rw [← HV3.out]; rfl, HG3.out, HP3.out⟩
set_option maxRecDepth 20000 in
theorem text_mk {w : World} (s : Str) (hs : s ≠ []) (hl : s.length ≤ 990) : Calls Tryz.prog 33 #[.string ⟨s.toArray⟩] w (PostLm (tx s) w) := by
  obtain ⟨X, HX⟩ : ∃ X : ByteArray, Hid (⟨s.toArray⟩ = X) := ⟨_, hid rfl⟩
  obtain ⟨Y, HY⟩ : ∃ X : ByteArray, Hid (⟨(tx s).toArray⟩ = X) := ⟨_, hid rfl⟩
  have htx : tx s = s ++ [10] := by rw [tx, if_neg hs]
  have hcat : X ++ ⟨#[10]⟩ = Y := by rw [← HX.out, ← HY.out, htx]; exact str_app s [10]
  obtain ⟨q, HQ⟩ : ∃ q, Hid (s.length = q) := ⟨_, rfl⟩
  have hq990 : q ≤ 990 := by rw [← HQ.out]; exact hl
  have hxz : X.size = q := by rw [← HX.out, txt_len]; exact HQ.out
  have h10 : (⟨#[10]⟩ : ByteArray).size = 1 := rfl
  obtain ⟨c2, w2, hr2, hp2, hb2⟩ := conv_bytes (tx s) w
  rw [HY.out] at hr2
  obtain ⟨K, HK2⟩ : ∃ K, Hid ((tx s).length = K) := ⟨_, rfl⟩
  rw [HK2.out] at hr2
  obtain ⟨G, HG⟩ : ∃ n, Hid (w.heap.size = n) := ⟨_, rfl⟩
  have CL : Hid (Calls Tryz.prog 60 #[.slice (some ⟨G, 0, none⟩) K c2] w2 (PostLm (tx s) w2)) := hid (by
    rw [← HK2.out]
    exact line_mk _ c2 (tx s) (by rw [← HG.out]; exact hp2) (by rw [htx]; simp) (by rw [htx, List.length_append]; simp; omega))
  rw [HG.out] at hr2
  have HB2 := hid hb2
  rw [HX.out]
  unfold PostLm
  clear hp2 hb2 hs htx hl
  go_enter Tryz.func33, Tryz.ntmps33
  go_wp2_with fail
  refine CL.out.mono ?_
  rintro e w3 ⟨hb3, g, c, rfl, hg, hp⟩
  have H1 : Hid (Below w.heap.size w w3) := hid (HB2.out.trans (hb3.mono HB2.out.size))
  have H2 : Hid (w.heap.size ≤ g) := hid (Nat.le_trans HB2.out.size hg)
  have H3 := hid hp
  clear hb3 hg hp
  go_wp2
  go_ret
  exact ⟨H1.out, g, c, rfl, H2.out, H3.out⟩
abbrev PRd (w : World) (a : Option Addr) (cap : Nat) (l : List Rf) : Prop := Px encR2 22 rf0 w a cap l
theorem range_rd {W : World} {b o : Nat} {x : Rf} (h : W.rangeAt b o (encR2 x)) : W.cell? ⟨b, o, none⟩ = some (sV x.1) ∧ W.rangeAt b (o + 1) (row .u8 x.2) := by
  refine ⟨h 0 _ rfl, fun j v hv => ?_⟩
  have hj : j < (row .u8 x.2).length := (List.getElem?_eq_some_iff.1 hv).1
  have := h (j + 1) v (by
    unfold encR2
    rw [List.getElem?_cons_succ, List.getElem?_append_left hj]
    exact hv)
  rw [← this]
  congr 2
  omega
theorem prd_at {W : World} {a : Option Addr} {cap : Nat} {l : List Rf} (h : PRd W a cap l) {b off : Nat} (ha : a = some ⟨b, off, none⟩) (i : Nat) (hi : i < l.length) (x : Rf) (hx : l.getD i rf0 = x) (X : ByteArray) (hX : ⟨x.1.toArray⟩ = X) (O : List Value) (hO : row .u8 x.2 = O) : W.cell? ⟨b, off + i * 22, none⟩ = some (.string X) ∧ W.rangeAt b (off + i * 22 + 1) O := by
  obtain ⟨b', off', e1, _, e3⟩ := h.at_ (by omega)
  rw [ha] at e1
  cases e1
  have h1 := e3 i hi
  rw [hx] at h1
  obtain ⟨q0, q1⟩ := range_rd h1
  rw [sV_out, hX] at q0
  rw [hO] at q1
  exact ⟨q0, q1⟩
def PostWDo (h : Str) (l : List Rf) (w : World) (G : Nat) (e : Ending) (w' : World) : Prop :=
  Below G w w' ∧ ((OkO h l ∧ ∃ a c, e = .returned (.tuple #[.slice a (ofB h l).length c, .int .i64 0]) ∧ PB w' a c (ofB h l)) ∨ (¬ OkO h l ∧ e = .returned (.tuple #[.slice none 0 0, .int .i64 111])))
theorem Tryz.results9 : Tryz.f9.results = #[.tmp 2, .tmp 3] := by kernel_rfl
def ofP (h : Str) (l : List Rf) (i : Nat) : Str := pktL ((hdL h ++ (l.take i).map rfT).map tx)
theorem ofP_snoc (h : Str) (l : List Rf) (i : Nat) (x : Rf) (hi : i < l.length) (hx : l.getD i rf0 = x) : ofP h l (i + 1) = ofP h l i ++ pkt (tx (rfT x)) := by
  unfold ofP
  rw [take_snocG rf0 l i hi, hx]
  simp [pktL]
theorem ofP_end (h : Str) (l : List Rf) (i : Nat) (hi : l.length ≤ i) : ofP h l i ++ [48, 48, 48, 48] = ofB h l := by
  unfold ofP ofB ofL
  have e : ∀ a : List Str, pktL (a.map tx) ++ [48, 48, 48, 48] = pktL ((a ++ [[]]).map tx) := fun a => by
    rw [List.map_append, pktL_app]
    rfl
  rw [List.take_of_length_le hi, e, List.append_assoc]
theorem ofP_len (h : Str) (l : List Rf) (i : Nat) (hh : h = [] ∨ Nm.isN h = true) (hi : IdR l) (hn : ∀ j, j < i → j < l.length → okAt l j) : (ofP h l i).length ≤ 80 + 110 * i := by
  induction i with
  | zero =>
    unfold ofP
    rw [List.take_zero, List.map_nil, List.append_nil]
    unfold hdL
    split
    · simp [pktL]
    · rename_i h0
      have h1 := isN_len (hh.resolve_left h0)
      have h2 := tx_len (hWo ++ h)
      rw [List.length_append] at h2
      simp only [List.map_cons, List.map_nil, pktL, List.flatMap_cons, List.flatMap_nil, List.append_nil, pkt_len]
      simp [hWo] at h2 ⊢
      omega
  | succ i ih =>
    have ih := ih (fun j hj hjl => hn j (by omega) hjl)
    by_cases hil : i < l.length
    · rw [ofP_snoc h l i _ hil rfl, List.length_append, pkt_len]
      have h1 := isN_len (hn i (by omega) hil).1
      have h2 := tx_len (rfT (l.getD i rf0))
      rw [rfT_len (hi _ (getD_mem l i _ hil))] at h2
      omega
    · have e : ofP h l (i + 1) = ofP h l i := by
        unfold ofP
        rw [List.take_of_length_le (by omega), List.take_of_length_le (by omega)]
      rw [e]
      omega
structure Q11 (G b o1 o2 : Nat) (Y X : ByteArray) (sv : Value) (W : World) : Prop where
  c1 : W.cell? ⟨G, 1, none⟩ = some sv
  c2 : W.cell? ⟨b, o1, none⟩ = some (.string Y)
  c3 : W.cell? ⟨b, o2, none⟩ = some (.string X)
structure Q13o (G b o : Nat) (X : ByteArray) (O : List Value) (sv : Value) (W : World) : Prop where
  c1 : W.cell? ⟨G, 1, none⟩ = some sv
  c3 : W.cell? ⟨b, o, none⟩ = some (.string X)
  r1 : W.rangeAt b (o + 1) O
end Go.Proofs.YtijeogdnjeamaaaGreatDoor
