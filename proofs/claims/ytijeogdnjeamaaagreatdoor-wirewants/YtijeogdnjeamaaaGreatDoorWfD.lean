/- 'readBack' of a want, 'ReadWant'. -/
import Derived.Test.YtijeogdnjeamaaaGreatDoorWfC
namespace Go.Proofs.YtijeogdnjeamaaaGreatDoor
open Go.RowKit
set_option linter.unusedVariables false
set_option linter.unusedSimpArgs false
theorem equal_any {w : World} (a : Option Addr) (ca : Nat) (s : Str) (hA : PB w a ca s) (b : Option Addr) (cb : Nat) (t : Str) (hB : PB w b cb t) :
    Calls Tryz.prog 100 #[.slice a s.length ca, .slice b t.length cb] w fun e w' => e = .returned (.bool (s == t)) ∧ w' = w := by
  obtain ⟨n, HN⟩ : ∃ n, Hid (s.length = n) := ⟨_, rfl⟩
  obtain ⟨m, HM⟩ : ∃ n, Hid (t.length = n) := ⟨_, rfl⟩
  have h1 : (convert 25 9 (.slice a n ca)).run Tryz.prog w = .ok (sV s) w := by rw [← HN.out]; exact conv_str hA
  have h2 : (convert 25 9 (.slice b m cb)).run Tryz.prog w = .ok (sV t) w := by rw [← HM.out]; exact conv_str hB
  unfold sV at h1 h2
  rw [HN.out, HM.out]
  clear hA hB
  go_enter Tryz.func100, Tryz.ntmps100
  go_wp2
  go_ret
  exact ⟨rfl, rfl⟩
/-- Bytes that are a want. -/
structure Wok (s : Str) (W H : List (List Int)) : Prop where
  w : W.Nodup
  h : H.Nodup
  iw : IdL W
  ih : IdL H
  b : s = wB W H
theorem wok_read {s : Str} {ls : List Str} {W H : List (List Int)} (h : Wok s W H) (hok : okL ls) (hs : s = pktL ls) : rdW (ls.map noEnd) = (W, H) := wB_read hok h.iw h.ih (by rw [← hs]; exact h.b)
theorem wok_ls {s : Str} {W H : List (List Int)} (h : Wok s W H) : ∃ ls, okL ls ∧ s = pktL ls := ⟨_, wtx_ok W H h.iw h.ih, h.b⟩
theorem wok_one {s : Str} {W H W2 H2 : List (List Int)} (h : Wok s W H) (h2 : Wok s W2 H2) : W = W2 ∧ H = H2 := by
  obtain ⟨ls, hok, hs⟩ := wok_ls h
  have e1 := wok_read h hok hs
  have e2 := wok_read h2 hok hs
  rw [e1] at e2
  exact ⟨congrArg Prod.fst e2, congrArg Prod.snd e2⟩
theorem st_new (w : World) (t : TypeId) (z : Array Value) (Y : List Value) (h : Y.length = z.size) : ∃ w', (w.alloc (.cells z t)).setCells w.heap.size 0 Y.toArray.toList = w' ∧ (w.alloc (.cells z t)).there w.heap.size 0 Y.toArray.size ∧ Below w.heap.size w w' ∧ w'.rangeAt w.heap.size 0 Y := by
  have ht : (w.alloc (.cells z t)).there w.heap.size 0 Y.toArray.size := there_off (heap_alloc_new w _) 0 (by rw [List.size_toArray, h]; omega)
  exact ⟨_, rfl, ht, below_setCells (Nat.le_refl _) _ _ _ _ ((Below.refl _ w).alloc (Nat.le_refl _) _), World.rangeAt_setCells_same _ _ 0 _ (by rwa [List.size_toArray] at ht)⟩
theorem Tryz.results74 : Tryz.f74.results = #[.cell 6 145, .tmp 7] := by kernel_rfl
def PostRB (s : Str) (w : World) (G : Nat) (e : Ending) (w' : World) : Prop :=
  Below G w w' ∧ ((∃ W H v1 v2, Wok s W H ∧ e = .returned (.tuple #[.agg #[v1, v2], .nilIface]) ∧ Bi 68 w w' G v1 W ∧ Bi 68 w w' G v2 H) ∨ ((¬ ∃ W H, Wok s W H) ∧ (∃ ls, okL ls ∧ s = pktL ls) ∧ e = .returned (.tuple #[.agg #[.slice none 0 0, .slice none 0 0], .iface 37 (.int .i64 111)])) ∨ ((¬ ∃ ls, okL ls ∧ s = pktL ls) ∧ e = .returned (.tuple #[.agg #[.slice none 0 0, .slice none 0 0], .iface 37 (.int .i64 110)])))
set_option maxRecDepth 20000 in
set_option maxHeartbeats 4000000 in
theorem readBack_any {w : World} (a : Option Addr) (cap : Nat) (s : Str) (hP : PB w a cap s) (hl : s.length ≤ 8000) (he : Ers w) (hd : Db w) :
    Calls Tryz.prog 74 #[.slice a s.length cap, .func (.func 75) #[] #[], .func (.func 76) #[] #[]] w (PostRB s w w.heap.size) := by
  obtain ⟨G, HG⟩ : ∃ n, Hid (w.heap.size = n) := ⟨_, rfl⟩
  obtain ⟨m, HM⟩ : ∃ n, Hid (s.length = n) := ⟨_, rfl⟩
  obtain ⟨w1, HW1⟩ : ∃ u, Hid (w.alloc (.cells #[.slice none 0 0, .slice none 0 0] 145) = u) := ⟨_, rfl⟩
  have hs1 : w1.heap.size = G + 1 := by rw [← HW1.out, ← HG.out]; exact size_alloc _ _
  obtain ⟨w2, HW2⟩ : ∃ u, Hid (w1.alloc (.cells #[.slice none 0 0, .slice none 0 0] 145) = u) := ⟨_, rfl⟩
  have hs2 : w2.heap.size = G + 1 + 1 := by rw [← HW2.out, ← hs1]; exact size_alloc _ _
  have hb1 : Below G w w1 := by rw [← HW1.out, ← HG.out]; exact (Below.refl _ w).alloc (Nat.le_refl _) _
  have hb12 : Below w1.heap.size w1 w2 := by rw [← HW2.out]; exact (Below.refl _ w1).alloc (Nat.le_refl _) _
  have hb2 : Below G w w2 := hb1.trans (hb12.mono (by omega))
  have hn0 : w2.heap[G]? = some (.cells #[.slice none 0 0, .slice none 0 0] 145 (0, 0)) := (hb12.block G (by omega)).trans (by rw [← HW1.out, ← HG.out]; exact heap_alloc_new _ _)
  have hn1 : w2.heap[G + 1]? = some (.cells #[.slice none 0 0, .slice none 0 0] 145 (0, 0)) := by rw [← HW2.out, ← hs1]; exact heap_alloc_new _ _
  have HPB : Hid (∀ W, Below G w W → PB W a cap s) := hid (fun W hW => hP.below (by rw [HG.out]; exact hW))
  have HDB : Hid (∀ W, Below G w W → Db W) := hid (fun W hW => hd.below (by rw [HG.out]; exact hW))
  have C99 : Hid (Calls Tryz.prog 99 #[.slice a m cap] w2 (PostT s w2)) := hid (by
    rw [← HM.out]
    exact readTexts_any a cap s (HPB.out w2 hb2) (by omega) (he.below (by rw [HG.out]; exact hb2)) (HDB.out w2 hb2))
  have HB2 := hid hb2
  have HS2 := hid hs2
  obtain ⟨d, hd1, hd2⟩ := und145
  have HD1 := hid hd1
  have HD2 := hid hd2
  have HEND : Hid (∀ X, Below w2.heap.size w2 X → X.rangeAt (G + 1) 0 [.slice none 0 0, .slice none 0 0] ∧ X.there G 0 (#[.slice none 0 0, .slice none 0 0] : Array Value).size ∧ Below G w (X.setCells G 0 [.slice none 0 0, .slice none 0 0]) ∧ (X.setCells G 0 [.slice none 0 0, .slice none 0 0]).rangeAt G 0 [.slice none 0 0, .slice none 0 0]) := hid (fun X hX => by
    have h0 := (hX.block G (by omega)).trans hn0
    have h1 := (hX.block (G + 1) (by omega)).trans hn1
    have ht : X.there G 0 2 := there_off h0 0 (by simp)
    exact ⟨range_row h1, ht, below_setCells (Nat.le_refl _) _ _ _ _ (hb2.trans (hX.mono (by omega))), World.rangeAt_setCells_same _ _ 0 _ ht⟩)
  have HEN2 : Hid (∀ (X : World) (v1 v2 : Value), Below w2.heap.size w2 X → X.there G 0 (#[v1, v2] : Array Value).size ∧ Below G w (X.setCells G 0 [v1, v2]) ∧ (X.setCells G 0 [v1, v2]).rangeAt G 0 [v1, v2]) := hid (fun X v1 v2 hX => by
    have h0 := (hX.block G (by omega)).trans hn0
    have ht : X.there G 0 2 := there_off h0 0 (by simp)
    exact ⟨ht, below_setCells (Nat.le_refl _) _ _ _ _ (hb2.trans (hX.mono (by omega))), World.rangeAt_setCells_same _ _ 0 _ ht⟩)
  have TZ2 : Hid ((Tryz.prog.info? 145).map (·.size) = some (#[.slice none 0 0, .slice none 0 0] : Array Value).size) := hid size145
  have TZ3 : Hid ((#[.slice none 0 0, .slice none 0 0] : Array Value).all (·.oneCell') = true) := hid (by simp [Value.oneCell'])
  have al1 : w.alloc (.cells #[.slice none 0 0, .slice none 0 0] 145) = w1 := HW1.out
  have al2 : w1.alloc (.cells #[.slice none 0 0, .slice none 0 0] 145) = w2 := HW2.out
  have hs0 : w.heap.size = G := HG.out
  have HL8 := hid hl
  rw [HM.out, HG.out]
  clear hP he hd hb1 hb12 hb2 hn0 hn1 hd1 hd2 hs2 hl
  go_enter Tryz.func74, Tryz.ntmps74
  go_wp2_with fail
  refine C99.out.mono ?_
  rintro e w3 ⟨hb3, ⟨ls, hok, hs, v, rfl, hbs⟩ | ⟨hno, rfl⟩⟩
  · obtain ⟨at', ct, rfl, hpt, _⟩ := hbs.px (d := []) (encS_len _)
    obtain ⟨ts, HTS⟩ : ∃ u, Hid (ls.map noEnd = u) := ⟨_, rfl⟩
    rw [HTS.out] at hpt
    rw [HTS.out]
    obtain ⟨k, HK⟩ : ∃ n, Hid (ts.length = n) := ⟨_, rfl⟩
    have htl : ts.length ≤ 20000 := by
      rw [← HTS.out, List.length_map]
      have h1 := pktL_cnt ls
      rw [← hs] at h1
      have := HL8.out
      omega
    have hts : ∀ t ∈ ts, t.length ≤ 10000 := fun t ht => by
      rw [← HTS.out] at ht
      obtain ⟨u, hu, rfl⟩ := List.mem_map.1 ht
      have h1 := noEnd_len u
      have h2 := hok u hu
      omega
    have hcnt : (rdW ts).1.length ≤ 400 ∧ (rdW ts).2.length ≤ 400 := by
      have h1 := rdW_cnt ts
      have h2 := tot_noEnd ls
      have h3 := tot_pktL ls
      rw [HTS.out] at h2
      rw [← hs] at h3
      have := HL8.out
      omega
    have C75 : Hid (Calls Tryz.prog 75 #[.slice at' k ct] w3 (PostRT ts w3)) := hid (by
      rw [← HK.out]
      exact readWanting_any at' ct ts hpt htl hts)
    have HB3 := hid hb3
    have HOK := hid hok
    have HSS := hid hs
    have HCN := hid hcnt
    rw [HK.out]
    clear hb3 hok hs hbs hpt htl hts hcnt
    go_wp2_with fail
    refine C75.out.mono ?_
    rintro e w4 ⟨v1, v2, rfl, hbi1, hbi2⟩
    obtain ⟨W, HWW⟩ : ∃ l, Hid ((rdW ts).1 = l) := ⟨_, rfl⟩
    obtain ⟨H, HHH⟩ : ∃ l, Hid ((rdW ts).2 = l) := ⟨_, rfl⟩
    rw [HWW.out] at hbi1
    rw [HHH.out] at hbi2
    have hIW : IdL W := by rw [← HWW.out]; exact rdI_wf _ _
    have hIH : IdL H := by rw [← HHH.out]; exact rdI_wf _ _
    have HIW := hid hIW
    have HIH := hid hIH
    have hcn := HCN.out
    rw [HWW.out, HHH.out] at hcn
    obtain ⟨a1, c1, rfl, hp1, _⟩ := hbi1.px (d := []) (idw_row hIW)
    obtain ⟨a2, c2, rfl, hp2, _⟩ := hbi2.px (d := []) (idw_row hIH)
    obtain ⟨n1, HN1⟩ : ∃ n, Hid (W.length = n) := ⟨_, rfl⟩
    obtain ⟨n2, HN2⟩ : ∃ n, Hid (H.length = n) := ⟨_, rfl⟩
    rw [HN1.out] at hbi1
    rw [HN2.out] at hbi2
    have HBI1 := hid hbi1
    have HBI2 := hid hbi2
    obtain ⟨P, HPP⟩ : ∃ n, Hid (w4.heap.size = n) := ⟨_, rfl⟩
    obtain ⟨w5, hw5, ht5, hb5, hr5⟩ := st_new w4 145 #[.slice none 0 0, .slice none 0 0] [.slice a1 n1 c1, .slice a2 n2 c2] rfl
    obtain ⟨wa, HWA⟩ : ∃ u, Hid (w4.alloc (.cells #[.slice none 0 0, .slice none 0 0] 145) = u) := ⟨_, rfl⟩
    rw [HWA.out, HPP.out] at hw5 ht5
    rw [HPP.out] at hr5
    have HW5 := hid hw5
    have T1 : Hid (wa.there P 0 (#[.slice a1 n1 c1, .slice a2 n2 c2] : Array Value).size) := hid ht5
    have T2 : Hid ((Tryz.prog.info? 145).map (·.size) = some (#[.slice a1 n1 c1, .slice a2 n2 c2] : Array Value).size) := hid size145
    have T3 : Hid ((#[.slice a1 n1 c1, .slice a2 n2 c2] : Array Value).all (·.oneCell') = true) := hid (by simp [Value.oneCell'])
    have R5 := hid hr5
    have HB5 := hid hb5
    have hb25 : Below w2.heap.size w2 w5 := (HB3.out.trans (hbi1.below.mono HB3.out.size)).trans (hb5.mono (by have := HB3.out.size; have := hbi1.below.size; omega))
    have HB25 := hid hb25
    have hgw5 : Below G w w5 := HB2.out.trans (hb25.mono (by have := HS2.out; omega))
    have C76 : Hid (Calls Tryz.prog 76 #[.agg #[.slice a1 n1 c1, .slice a2 n2 c2]] w5 (PostWW W H w5)) := hid (by
      rw [← HN1.out, ← HN2.out]
      exact writeBack_any a1 c1 W (hp1.below hb5) hIW hcn.1 a2 c2 H (hp2.below hb5) hIH hcn.2 (HDB.out w5 hgw5))
    have HWK : Hid (∀ W2 H2, Wok s W2 H2 → W2 = W ∧ H2 = H) := hid (fun W2 H2 h => by
      have h1 := wok_read h HOK.out HSS.out
      rw [HTS.out] at h1
      rw [← HWW.out, ← HHH.out, h1]
      exact ⟨rfl, rfl⟩)
    have HLS : Hid (∃ ls, okL ls ∧ s = pktL ls) := hid ⟨ls, HOK.out, HSS.out⟩
    have al4 : w4.alloc (.cells #[.slice none 0 0, .slice none 0 0] 145) = wa := HWA.out
    have hsP : w4.heap.size = P := HPP.out
    rw [HN1.out, HN2.out]
    clear hbi1 hbi2 hIW hIH hcn hp1 hp2 hw5 ht5 hb5 hr5 hb25 hgw5
    go_wp2_with (first
      | (refine wpList_store_mid rfl 145 _ _ rfl P 0 #[.slice a1 n1 c1, .slice a2 n2 c2] rfl rfl T1.out T2.out T3.out ?_; rw [HW5.out])
      | (refine wpList_load_mid rfl 145 _ rfl P 0 rfl [.slice a1 n1 c1, .slice a2 n2 c2] _ R5.out HD1.out HD2.out size145 ?_)
      | fail)
    refine C76.out.mono ?_
    rintro e w6 ⟨hb6, ⟨h1, h2, v, rfl, ho⟩ | ⟨h1, rfl⟩⟩
    · obtain ⟨a6, c6, rfl, hp6, _⟩ := own_pb ho
      obtain ⟨S, HSB⟩ : ∃ S, Hid (wB W H = S) := ⟨_, rfl⟩
      rw [HSB.out] at hp6
      rw [HSB.out]
      obtain ⟨q, HQ⟩ : ∃ n, Hid (S.length = n) := ⟨_, rfl⟩
      have hb26 : Below w2.heap.size w2 w6 := HB25.out.trans (hb6.mono HB25.out.size)
      have C100 : Hid (Calls Tryz.prog 100 #[.slice a6 q c6, .slice a m cap] w6 fun e w' => e = .returned (.bool (S == s)) ∧ w' = w6) := hid (by
        rw [← HQ.out, ← HM.out]
        exact equal_any a6 c6 S hp6 a cap s (HPB.out w6 (HB2.out.trans (hb26.mono (by have := HS2.out; omega)))))
      have R6 : Hid (w6.rangeAt P 0 [.slice a1 n1 c1, .slice a2 n2 c2]) := hid (fun j v hv => (grown_of_below hb6 none).cell (R5.out j v hv) (by simp))
      obtain ⟨z0, z1, z2, z3⟩ := HEND.out w6 hb26
      obtain ⟨y1, y2, y3⟩ := HEN2.out w6 (.slice a1 n1 c1) (.slice a2 n2 c2) hb26
      have Z0 := hid z0
      have Z1 := hid z1
      have Y1 := hid y1
      have Y3 := hid y3
      have Z2 := hid z2
      have Z3 := hid z3
      have Y2 := hid y2
      have hgs : w6.grownBy (w6.setCells G 0 [.slice a1 n1 c1, .slice a2 n2 c2]) (some G) := grown_setCells G _ 0 w6 w6 (World.grownBy.refl _ _)
      have hl3 := HB3.out.size
      have hl2 := HS2.out
      have hl4 := HBI1.out.below.size
      have hk1 := own_keep (own_keep (own_keep HBI1.out.own (grown_of_below HB5.out none) (fun j e => by cases e)) (grown_of_below hb6 none) (fun j e => by cases e)) hgs (fun j e => by cases e; omega)
      have hk2 := own_keep (own_keep (own_keep HBI2.out.own (grown_of_below HB5.out none) (fun j e => by cases e)) (grown_of_below hb6 none) (fun j e => by cases e)) hgs (fun j e => by cases e; omega)
      have hsz6 : G ≤ (w6.setCells G 0 [.slice a1 n1 c1, .slice a2 n2 c2]).heap.size := by
        have := hgs.size
        have := hb26.size
        omega
      have F1 : Hid (Bi 68 w (w6.setCells G 0 [.slice a1 n1 c1, .slice a2 n2 c2]) G (.slice a1 n1 c1) W) := hid ⟨y2, base_mono hk1 (by omega), hsz6⟩
      have F2 : Hid (Bi 68 w (w6.setCells G 0 [.slice a1 n1 c1, .slice a2 n2 c2]) G (.slice a2 n2 c2) H) := hid ⟨y2, base_mono hk2 (by omega), hsz6⟩
      have H1 := hid h1
      have H2 := hid h2
      rw [HQ.out]
      clear h1 h2 ho hp6 hb6 hb26 z0 z1 z2 z3 y1 y2 y3 hgs hl3 hl2 hl4 hk1 hk2 hsz6
      go_wp2_with fail
      refine C100.out.mono ?_
      rintro e w7 ⟨rfl, hw7⟩
      rw [hw7]
      clear hw7 w7
      by_cases hSs : S = s
      · have hbb : (S == s) = true := beq_t hSs
        have HGD : Hid (Wok s W H) := hid ⟨H1.out, H2.out, HIW.out, HIH.out, by rw [HSB.out]; exact hSs.symm⟩
        rw [hbb]
        clear hbb hSs
        go_wp2_with (first
          | (refine wpList_load_mid rfl 145 _ rfl P 0 rfl [.slice a1 n1 c1, .slice a2 n2 c2] _ R6.out HD1.out HD2.out size145 ?_)
          | (refine wpList_store_mid rfl 145 _ _ rfl G 0 #[.slice a1 n1 c1, .slice a2 n2 c2] rfl rfl Y1.out T2.out T3.out ?_)
          | fail)
        refine bodyPost_ret (Hx.results_mid2 (t2 := 27) Tryz.results74 _ _ G [.slice a1 n1 c1, .slice a2 n2 c2] _ _ rfl rfl Y3.out HD1.out HD2.out size145) rfl ?_
        exact ⟨Y2.out, .inl ⟨W, H, _, _, HGD.out, rfl, F1.out, F2.out⟩⟩
      · have hbb : (S == s) = false := beq_f hSs
        have HGD : Hid (¬ ∃ W H, Wok s W H) := hid (fun ⟨W2, H2, h⟩ => by
          obtain ⟨e1, e2⟩ := HWK.out W2 H2 h
          subst e1 e2
          exact hSs (by rw [← HSB.out]; exact h.b.symm))
        rw [hbb]
        clear hbb hSs
        go_wp2_with (first
          | (refine wpList_load_mid rfl 145 _ rfl (G + 1) 0 rfl [.slice none 0 0, .slice none 0 0] _ Z0.out HD1.out HD2.out size145 ?_)
          | (refine wpList_store_mid rfl 145 _ _ rfl G 0 #[.slice none 0 0, .slice none 0 0] rfl rfl Z1.out TZ2.out TZ3.out ?_)
          | fail)
        refine bodyPost_ret (Hx.results_mid2 (t2 := 27) Tryz.results74 _ _ G [.slice none 0 0, .slice none 0 0] _ _ rfl rfl Z3.out HD1.out HD2.out size145) rfl ?_
        exact ⟨Z2.out, .inr (.inl ⟨HGD.out, HLS.out, rfl⟩)⟩
    · have hb26 : Below w2.heap.size w2 w6 := HB25.out.trans (hb6.mono HB25.out.size)
      obtain ⟨z0, z1, z2, z3⟩ := HEND.out w6 hb26
      have Z0 := hid z0
      have Z1 := hid z1
      have Z2 := hid z2
      have Z3 := hid z3
      have HGD : Hid (¬ ∃ W H, Wok s W H) := hid (fun ⟨W2, H2, h⟩ => by
        obtain ⟨e1, e2⟩ := HWK.out W2 H2 h
        subst e1 e2
        exact h1 ⟨h.w, h.h⟩)
      clear h1 hb6 hb26 z0 z1 z2 z3
      go_wp2_with (first
        | (refine wpList_load_mid rfl 145 _ rfl (G + 1) 0 rfl [.slice none 0 0, .slice none 0 0] _ Z0.out HD1.out HD2.out size145 ?_)
        | (refine wpList_store_mid rfl 145 _ _ rfl G 0 #[.slice none 0 0, .slice none 0 0] rfl rfl Z1.out TZ2.out TZ3.out ?_)
        | fail)
      refine bodyPost_ret (Hx.results_mid2 (t2 := 27) Tryz.results74 _ _ G [.slice none 0 0, .slice none 0 0] _ _ rfl rfl Z3.out HD1.out HD2.out size145) rfl ?_
      exact ⟨Z2.out, .inr (.inl ⟨HGD.out, HLS.out, rfl⟩)⟩
  · obtain ⟨z0, z1, z2, z3⟩ := HEND.out w3 hb3
    have Z0 := hid z0
    have Z1 := hid z1
    have Z2 := hid z2
    have Z3 := hid z3
    have HNO := hid hno
    clear hno hb3 z0 z1 z2 z3
    go_wp2_with (first
      | (refine wpList_load_mid rfl 145 _ rfl (G + 1) 0 rfl [.slice none 0 0, .slice none 0 0] _ Z0.out HD1.out HD2.out size145 ?_)
      | (refine wpList_store_mid rfl 145 _ _ rfl G 0 #[.slice none 0 0, .slice none 0 0] rfl rfl Z1.out TZ2.out TZ3.out ?_)
      | fail)
    refine bodyPost_ret (Hx.results_mid2 (t2 := 27) Tryz.results74 _ _ G [.slice none 0 0, .slice none 0 0] _ _ rfl rfl Z3.out HD1.out HD2.out size145) rfl ?_
    exact ⟨Z2.out, .inr (.inr ⟨HNO.out, rfl⟩)⟩
end Go.Proofs.YtijeogdnjeamaaaGreatDoor
