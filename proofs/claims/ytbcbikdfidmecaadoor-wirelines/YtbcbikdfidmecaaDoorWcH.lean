/- The law 'WireLines', walked. -/
import Derived.Test.YtbcbikdfidmecaaDoorWcG
namespace Go.Proofs.YtbcbikdfidmecaaDoor
open Go.RowKit
set_option linter.unusedVariables false
set_option linter.unusedSimpArgs false
/-- What both sides' 'Pkt' told. -/
def Told (ts : List Hdr) (X : Str) (ev : Value) (f : Int) : Prop := (okLs ts ∧ X = pktB ts ∧ ev = .nilIface ∧ f = 0) ∨ (¬ okLs ts ∧ X = [] ∧ ev = .iface 32 (.int .i64 110) ∧ f = 110)
set_option maxRecDepth 40000 in
set_option maxHeartbeats 8000000 in
theorem walkL {w : World} (a : Option Addr) (cap : Nat) (ts : List Hdr) (hP : PT w a cap ts) (hA : AT w ts) (hbig : ∀ t ∈ ts, t.2.2.length ≤ 140737488355328) (hn : ts.length ≤ 60) (b : Option Addr) (cb : Nat) (s : Str) (hPb : PB w b cb s) (hl : s.length ≤ 6000) (hg : Hg w) (he : Ers w) (hd : Db w) :
    Calls Tryd.prog 3 #[.slice a ts.length cap, .slice b s.length cb] w fun e w' => e = .returned (.bool true) ∧ Below w.heap.size w w' := by
  obtain ⟨n, HN⟩ : ∃ n, Hid (ts.length = n) := ⟨_, rfl⟩
  obtain ⟨m, HM⟩ : ∃ m, Hid (s.length = m) := ⟨_, rfl⟩
  obtain ⟨G, HG⟩ : ∃ g, Hid (w.heap.size = g) := ⟨_, rfl⟩
  have hG0 : 0 < G := by rw [← HG.out]; exact hg.lt
  rw [HN.out] at hn
  have hm : m ≤ 6000 := by rw [← HM.out]; exact hl
  have HTW : Hid (∀ W, Below G w W → PT W a cap ts) := fun W hW => hP.below (by rw [HG.out]; exact hW)
  have HAW : Hid (∀ W, Below G w W → AT W ts) := fun W hW => hA.below (by rw [HG.out]; exact hW)
  have HBW : Hid (∀ W, Below G w W → PB W b cb s) := fun W hW => hPb.below (by rw [HG.out]; exact hW)
  have HGW : Hid (∀ W, Below G w W → Hg W) := fun W hW => hg.below hW hG0
  have HEW : Hid (∀ W, Below G w W → Ers W) := fun W hW => he.below (by rw [HG.out]; exact hW)
  have HDW : Hid (∀ W, Below G w W → Db W) := fun W hW => hd.b hW HG.out.symm
  have HBIG := hid hbig
  have HFA : Hid (0 < n → ∃ pb po, a = some ⟨pb, po, none⟩ ∧ pb < G) := fun h0 => by
    obtain ⟨pb, po, e1, e2, _⟩ := hP.at_ (by rw [HN.out]; exact h0)
    exact ⟨pb, po, e1, by rw [← HG.out]; exact e2⟩
  have HBL : Hid (∀ t ∈ ts, 0 < t.2.2.length → ∃ tb to, t.1 = some ⟨tb, to, none⟩ ∧ tb < G) := hid (fun t ht h0 => by
    obtain ⟨tb, to, e1, e2, _⟩ := (hA t ht).at_ h0
    exact ⟨tb, to, e1, by rw [← HG.out]; exact e2⟩)
  have C10 : Hid (∀ W, Below G w W → Calls Tryd.prog 10 #[.slice b m cb] W fun e w' => e = .returned (.bool true) ∧ Below W.heap.size W w') := hid (fun W hW => by
    have := linesL_any b cb s (HBW.out W hW) (by rw [HM.out]; omega) (HGW.out W hW) (HEW.out W hW) (HDW.out W hW)
    rw [HM.out] at this
    exact this)
  have S0 : Hid (RR w w G (.slice none 0 0) []) := hid (rr_nil w G HG.out.symm)
  rw [HN.out, HM.out, HG.out]
  clear hP hA hPb hg he hd hbig hl
  go_enter Tryd.func3, Tryd.ntmps3
  go_wp2_with fail
  go_loopg [5, 6, 7] n (fun gg rv nv iv wr => ∃ (i q : Nat) (rs : List (Nat × Str)), nv = .int .i64 q ∧ iv = .int .i64 i ∧ i ≤ n ∧ gg = n - i ∧ q ≤ 12000 ∧ Hid (RR w wr G rv rs) ∧ Hid (rs.map (·.2) = (ts.take i).map (·.2.2)) ∧ Hid ((pktB (ts.take i)).length = q + 4 * i))
  case atStart => exact ⟨0, 0, [], rfl, rfl, Nat.zero_le _, rfl, by omega, S0, hid rfl, hid rfl⟩
  case round =>
    obtain ⟨i, q, rs, rfl, rfl, hi, hk, hq, HR, HRS, HQ⟩ := hrel
    have hrl : rs.length = i := by
      have := congrArg List.length HRS.out
      rw [List.length_map, List.length_map, List.length_take, HN.out] at this
      omega
    by_cases hlt : i < n
    · have hlti : (i : Int) < (n : Int) := by omega
      obtain ⟨pb, po, rfl, hpb⟩ := HFA.out (by omega)
      have hil : i < ts.length := by rw [HN.out]; exact hlt
      obtain ⟨t, HT⟩ : ∃ t, Hid (ts.getD i dT = t) := ⟨_, rfl⟩
      have HTM : Hid (t ∈ ts) := hid (by rw [← HT.out]; exact getD_mem ts i dT hil)
      have HTK : Hid (ts.take (i + 1) = ts.take i ++ [t]) := hid (by rw [← HT.out]; exact take_snocG dT ts i hil)
      obtain ⟨ta, tc, x⟩ := t
      obtain ⟨k, HK⟩ : ∃ k, Hid (x.length = k) := ⟨_, rfl⟩
      have hkb : k ≤ 140737488355328 := by rw [← HK.out]; exact HBIG.out _ HTM.out
      have kc : wr.cell? ⟨pb, po + i, none⟩ = some (.slice ta k tc) := by
        have := (HTW.out wr HR.out.bt.below).cell i hil
        rw [HT.out, HK.out] at this
        exact this
      have HBr : Hid (Below G w wr) := hid HR.out.bt.below
      by_cases hb1 : 12000 < q + k
      · have hbi : (12000 : Int) < (q : Int) + (k : Int) := by omega
        clear hil
        go_wp2
        go_ret
        exact ⟨rfl, HBr.out⟩
      · have hbi : ¬ (12000 : Int) < (q : Int) + (k : Int) := by omega
        obtain ⟨g, HGr⟩ : ∃ g, Hid (wr.heap.size = g) := ⟨_, rfl⟩
        have C4 : Hid (Calls Tryd.prog 4 #[.slice ta k tc] wr fun e w' => e = .returned (.slice (some ⟨g, 0, none⟩) k (k + 2)) ∧ Below g wr w' ∧ Room w' g (nums x)) := hid (by
          have := roomy_any ta tc (nums x) wr (by rw [nums_len, HK.out]; omega) (fun h0 => by
            rw [nums_len] at h0
            have hpx : PB wr ta tc x := HAW.out wr HR.out.bt.below (ta, tc, x) HTM.out
            obtain ⟨b, off, e1, e2, _⟩ := hpx.at_ h0
            subst e1
            exact ⟨b, off, rfl, e2, pb_at hpx⟩)
          rw [nums_len, HK.out, HGr.out] at this
          exact this)
        have HRS2 : Hid ((rs ++ [(g, x)]).map (·.2) = (ts.take (i + 1)).map (·.2.2)) := hid (by rw [HTK.out, List.map_append, List.map_append, HRS.out]; rfl)
        have HQ2 : Hid ((pktB (ts.take (i + 1))).length = q + k + 4 * (i + 1)) := hid (by
          rw [HTK.out]
          have h1 := HQ.out
          unfold pktB at h1 ⊢
          rw [List.flatMap_append, List.length_append]
          simp only [List.flatMap_cons, List.flatMap_nil, List.append_nil, pkt_len]
          rw [HK.out]
          omega)
        have HHL := hid hrl
        clear hil hrl
        go_wp2_with fail
        refine C4.out.mono ?_
        rintro e w1 ⟨rfl, hb, hr⟩
        obtain ⟨v5, W5, hr5, hrr⟩ := HR.out.more (by rw [HHL.out]; omega) (by rw [HGr.out]; exact hb) g HGr.out x hr k HK.out
        have hbs := run_hdr (.slice (some ⟨g, 0, none⟩) k (k + 2)) rfl rfl w1
        obtain ⟨W3, HW3⟩ : ∃ W, Hid (w1.alloc (.cells #[.slice (some ⟨g, 0, none⟩) k (k + 2)] 23) = W) := ⟨_, rfl⟩
        rw [HW3.out] at hr5 hbs
        have al3 : w1.alloc (.cells #[.slice (some ⟨g, 0, none⟩) k (k + 2)] 23) = W3 := HW3.out
        have HR5 := hid hrr
        clear hb hr hrr
        go_wp2_with (first | (refine wpList_bSY rfl 22 1 _ rfl (.slice (some ⟨g, 0, none⟩) k (k + 2)) _ rfl hbs ?_) | (at_builtin; refine wpList_app rfl _ _ 22 22 rfl 22 rfl _ _ rfl rfl hr5 ?_) | fail)
        go_roundg (n - (i + 1))
        case measure => omega
        case rel => exact ⟨i + 1, q + k, rs ++ [(g, x)], by go_num, by go_num, by omega, rfl, by omega, HR5, HRS2, HQ2⟩
    · have hlti : ¬ (i : Int) < (n : Int) := by omega
      obtain ⟨w1, rfl⟩ : ∃ x, x = wr := ⟨_, rfl⟩
      have hin : i = n := by omega
      have HTS : Hid (ts.take i = ts) := hid (List.take_of_length_le (by rw [HN.out]; omega))
      rw [HTS.out] at HRS HQ
      have hrn : rs.length = n := by omega
      obtain ⟨ar, cr, hvr, hpr, hbr, hnr⟩ := Bx.px (d := dT) HR.out.bt (fun x _ => rfl)
      rw [List.length_map, hrn] at hvr
      subst hvr
      have HPR : Hid (PT w1 ar cr (rs.map hR)) := hid hpr
      have HRN := hid hrn
      have HNR : Hid (0 < n → ∃ rb, ar = some ⟨rb, 0, none⟩) := hid (fun h0 => by
        rcases hnr with h | h
        · obtain ⟨b, off, e1, _⟩ := hpr.at_ (by rw [List.length_map, hrn]; exact h0)
          rw [h] at e1
          cases e1
        · exact h)
      have HAR : Hid (AT w1 (rs.map hR)) := hid (fun t ht => by
        obtain ⟨r, h1, rfl⟩ := List.mem_map.1 ht
        obtain ⟨j, hj, e⟩ := List.getElem_of_mem h1
        have := (HR.out.room j hj).1
        rw [List.getD_eq_getElem?_getD, List.getElem?_eq_getElem hj, Option.getD_some, e] at this
        exact this.pb)
      have HMB : Hid (pktB (rs.map hR) = pktB ts ∧ (okLs (rs.map hR) ↔ okLs ts)) := hid ⟨by rw [pktB_map, pktB_map, hR_map, HRS.out], by rw [okLs_map, okLs_map, hR_map, HRS.out]⟩
      obtain ⟨M, HMM⟩ : ∃ M, Hid (w1.heap.size = M) := ⟨_, rfl⟩
      have HB1 : Hid (Below G w w1) := hid HR.out.bt.below
      have hGM : G ≤ M := by rw [← HMM.out]; exact HR.out.bt.le
      have C5 : Hid (Calls Tryd.prog 5 #[.slice ar n cr] w1 (PostP (rs.map hR) w1)) := hid (by
        have := pkt_any ar cr (rs.map hR) HPR.out HAR.out (by rw [List.length_map, HRN.out]; omega) (HDW.out w1 HB1.out)
        rw [List.length_map, HRN.out] at this
        exact this)
      clear hpr hbr hnr hrn hrl
      go_wp2_with fail
      refine C5.out.mono ?_
      rintro e w5 ⟨hb5, hor⟩
      obtain ⟨ax, cx, X, ev, f, he5, hx5, htold⟩ : ∃ ax cx X ev f, e = .returned (.tuple #[.slice ax (List.length (α := UInt8) X) cx, ev]) ∧ ((ax = none ∧ cx = 0 ∧ X = []) ∨ ∃ xg, ax = some ⟨xg, 0, none⟩ ∧ M ≤ xg ∧ PB w5 (some ⟨xg, 0, none⟩) cx X ∧ xg < w5.heap.size) ∧ Told ts X ev f := by
        rcases hor with ⟨h1, v, rfl, h2⟩ | ⟨h1, rfl⟩
        · rw [HMB.out.1, HMM.out] at h2
          rcases own_mk h2 with ⟨hv, hs0⟩ | ⟨xg, cx, hv, hM, hmk⟩
          · exact ⟨none, 0, [], _, 0, by rw [hv]; rfl, .inl ⟨rfl, rfl, rfl⟩, .inl ⟨HMB.out.2.1 h1, hs0.symm, rfl, rfl⟩⟩
          · exact ⟨_, cx, pktB ts, _, 0, by rw [hv], .inr ⟨xg, rfl, hM, hmk.pb, hmk.lt⟩, .inl ⟨HMB.out.2.1 h1, rfl, rfl, rfl⟩⟩
        · exact ⟨none, 0, [], _, 110, rfl, .inl ⟨rfl, rfl, rfl⟩, .inr ⟨fun h => h1 (HMB.out.2.2 h), rfl, rfl, rfl⟩⟩
      subst he5
      have HTO := hid htold
      have HX5 := hid hx5
      obtain ⟨K, HKX⟩ : ∃ K, Hid (X.length = K) := ⟨_, rfl⟩
      have HB5 : Hid (Below M w1 w5) := hid (by rw [← HMM.out]; exact hb5)
      have HBw5 : Hid (Below G w w5) := hid (HB1.out.trans (HB5.out.mono hGM))
      have hM5 : M ≤ w5.heap.size := by rw [← HMM.out]; exact hb5.size
      have HP40 : Hid (P4 G w5 w5 rs 0) := hid ⟨Below.refl _ _, Nat.le_refl _, fun _ _ _ => rfl⟩
      have HRM : Hid (∀ j, j < n → (rs.getD j dR).1 < M ∧ G ≤ (rs.getD j dR).1) := hid (fun j hj => by
        have := HR.out.room j (by rw [HRN.out]; exact hj)
        exact ⟨by rw [← HMM.out]; exact this.1.lt, this.2.1⟩)
      rw [HKX.out]
      clear hb5 hor htold hx5
      go_wp2_with fail
      go_loopg [11] n (fun gg iv W => ∃ i4 : Nat, iv = .int .i64 i4 ∧ i4 ≤ n ∧ gg = n - i4 ∧ Hid (P4 G w5 W rs i4))
      case atStart => exact ⟨0, rfl, Nat.zero_le _, rfl, HP40⟩
      case round =>
        obtain ⟨w6, rfl⟩ : ∃ x, x = wr := ⟨_, rfl⟩
        obtain ⟨i4, rfl, hi4, hk4, HP4⟩ := hrel
        have HBw6 : Hid (Below G w w6) := hid (HBw5.out.trans HP4.out.bl)
        by_cases hlt4 : i4 < n
        · have hlt4i : (i4 : Int) < (n : Int) := by omega
          obtain ⟨pb, po, rfl, hpb⟩ := HFA.out (by omega)
          obtain ⟨rb, rfl⟩ := HNR.out (by omega)
          have hil : i4 < ts.length := by rw [HN.out]; exact hlt4
          have hir : i4 < rs.length := by rw [HRN.out]; exact hlt4
          obtain ⟨t, HT⟩ : ∃ t, Hid (ts.getD i4 dT = t) := ⟨_, rfl⟩
          have HTM : Hid (t ∈ ts) := hid (by rw [← HT.out]; exact getD_mem ts i4 dT hil)
          obtain ⟨r, HRr⟩ : ∃ r, Hid (rs.getD i4 dR = r) := ⟨_, rfl⟩
          have HTX : Hid (r.2 = t.2.2) := hid (by
            have h1 : (rs.map (·.2))[i4]? = (ts.map (·.2.2))[i4]? := by rw [HRS.out]
            rw [List.getElem?_map, List.getElem?_map, List.getElem?_eq_getElem hil, List.getElem?_eq_getElem hir] at h1
            rw [← HT.out, ← HRr.out, List.getD_eq_getElem?_getD, List.getD_eq_getElem?_getD, List.getElem?_eq_getElem hil, List.getElem?_eq_getElem hir]
            exact Option.some.inj h1)
          obtain ⟨ta, tc, x⟩ := t
          obtain ⟨g, y⟩ := r
          obtain rfl : y = x := HTX.out
          obtain ⟨k, HK⟩ : ∃ k, Hid (y.length = k) := ⟨_, rfl⟩
          have HSS : Hid (∀ W i', P4 G w5 W rs i' → W.cell? ⟨rb, i4, none⟩ = some (.slice (some ⟨g, 0, none⟩) k (k + 2)) ∧ W.cell? ⟨pb, po + i4, none⟩ = some (.slice ta k tc)) := hid (fun W i' h4 => by
            have hBW : Below G w W := HBw5.out.trans h4.bl
            constructor
            · have hc := HPR.out.cell i4 (by rw [List.length_map]; exact hir)
              obtain ⟨b', o', e1, e2, _⟩ := HPR.out.at_ (by rw [List.length_map]; omega)
              cases e1
              have hob : (Value.slice (some ⟨rb, 0, none⟩) n cr).ownBlock = some rb := rfl
              rw [HMM.out] at e2
              have h5 : w5.heap[rb]? = w1.heap[rb]? := HB5.out.block rb e2
              have h6 : W.heap[rb]? = w5.heap[rb]? := h4.blk rb (by omega) (fun j _ hj e => (HR.out.room j hj).2.2 (by rw [hob, e]))
              rw [World.cell?_of_block (a := ⟨rb, i4, none⟩) (h6.trans h5)]
              rw [Nat.zero_add] at hc
              rw [hc, List.getD_eq_getElem?_getD, List.getElem?_map]
              have h7 : rs[i4]? = some (g, y) := by rw [List.getElem?_eq_getElem hir, ← HRr.out, List.getD_eq_getElem?_getD, List.getElem?_eq_getElem hir]; rfl
              rw [h7, ← HK.out]
              rfl
            · have := (HTW.out W hBW).cell i4 hil
              rw [HT.out, HK.out] at this
              exact this)
          have HRO : Hid (∀ W, P4 G w5 W rs i4 → Room W g (nums y)) := hid (fun W h4 => by
            have h1 := (HR.out.room i4 hir).1
            rw [HRr.out] at h1
            have h2 := h1.below (by rw [HMM.out]; exact HB5.out)
            refine h2.blk (h4.blk g h2.lt (fun j hj hjl e => ?_)) h4.size
            have := HR.out.dist j i4 hj hir
            rw [HRr.out] at this
            exact this e)
          have HGg : Hid (G ≤ g) := hid (by have := (HRM.out i4 hlt4).2; rw [HRr.out] at this; exact this)
          have HSML : Hid (y.length ≤ 300000) := hid (by
            have h1 : (pkt y).length ≤ (pktB ts).length := by
              unfold pktB
              have : ∀ l : List Hdr, (ta, tc, y) ∈ l → (pkt y).length ≤ (l.flatMap fun t => pkt t.2.2).length := by
                intro l hl
                induction l with
                | nil => cases hl
                | cons z l ih =>
                  rw [List.flatMap_cons, List.length_append]
                  rcases List.mem_cons.1 hl with rfl | h
                  · simp
                  · have := ih h; omega
              exact this ts HTM.out
            rw [HQ.out, pkt_len] at h1
            omega)
          have C6 : Hid (∀ W, P4 G w5 W rs i4 → Calls Tryd.prog 6 #[.slice (some ⟨g, 0, none⟩) k (k + 2), .slice ta k tc] W fun e w' => e = .returned (.bool true) ∧ W.grownBy w' (some g)) := hid (fun W h4 => by
            have hBW : Below G w W := HBw5.out.trans h4.bl
            have := still_keep ta tc g (nums y) W (by rw [nums_len]; exact HSML.out) (nums_b y) (HRO.out W h4) (fun h0 => by
              rw [nums_len] at h0
              obtain ⟨tb, to, e1, e2⟩ := HBL.out _ HTM.out h0
              have e1' : ta = some ⟨tb, to, none⟩ := e1
              subst e1'
              have h2 := HGg.out
              exact ⟨tb, to, rfl, by omega, pb_at (HAW.out W hBW _ HTM.out)⟩)
            rw [nums_len, HK.out] at this
            exact this)
          have HPd : Hid (P4 G w5 w6.drew rs i4) := hid HP4.out.drew
          have HIR := hid hir
          clear hil hir
          go_wp2_with fail
          refine wp_region_held_drew (S := fun W => W.cell? ⟨rb, i4, none⟩ = some (.slice (some ⟨g, 0, none⟩) k (k + 2)) ∧ W.cell? ⟨pb, po + i4, none⟩ = some (.slice ta k tc)) (by kernel_rfl) (HSS.out _ _ HPd.out) (fun hHeld => ?_)
          generalize w6.drew = wd at hHeld HPd ⊢
          refine takeL (i := 0) (v := ?_) rfl (by kernel_rfl) (by kernel_rfl) (by kernel_rfl) (fun _ _ _ h => h) (Or.inl ⟨by rfl, ?_⟩) hHeld ?_
          rotate_left
          · rintro w' ⟨hc1, hc2⟩; go_simp; rfl
          try simp only [Act.put, List.setIfInBounds_toArray, List.set_cons_zero, List.set_cons_succ]
          refine takeL (i := 1) (v := ?_) rfl (by kernel_rfl) (by kernel_rfl) (by kernel_rfl) (fun _ _ _ h => h) (Or.inl ⟨by rfl, ?_⟩) hHeld ?_
          rotate_left
          · rintro w' ⟨hc1, hc2⟩; go_simp; rfl
          try simp only [Act.put, List.setIfInBounds_toArray, List.set_cons_zero, List.set_cons_succ]
          refine takeL (i := 2) (v := .pointer (some ⟨rb, i4, none⟩)) rfl (by kernel_rfl) (by kernel_rfl) (by kernel_rfl) (fun _ _ _ h => h) (Or.inl ⟨by rfl, ?_⟩) hHeld ?_
          · rintro w' ⟨hc1, hc2⟩; go_simp; try rfl
          try simp only [Act.put, List.setIfInBounds_toArray, List.set_cons_zero, List.set_cons_succ]
          refine takeL (i := 3) (v := .slice (some ⟨g, 0, none⟩) k (k + 2)) rfl (by kernel_rfl) (by kernel_rfl) (by kernel_rfl) (fun _ _ _ h => h) (Or.inl ⟨by rfl, ?_⟩) hHeld ?_
          · rintro w' ⟨hc1, hc2⟩; go_simp; try rfl
          try simp only [Act.put, List.setIfInBounds_toArray, List.set_cons_zero, List.set_cons_succ]
          refine takeL (i := 4) (v := ?_) rfl (by kernel_rfl) (by kernel_rfl) (by kernel_rfl) (fun _ _ _ h => h) (Or.inl ⟨by rfl, ?_⟩) hHeld ?_
          rotate_left
          · rintro w' ⟨hc1, hc2⟩; go_simp; rfl
          try simp only [Act.put, List.setIfInBounds_toArray, List.set_cons_zero, List.set_cons_succ]
          refine takeL (i := 5) (v := ?_) rfl (by kernel_rfl) (by kernel_rfl) (by kernel_rfl) (fun _ _ _ h => h) (Or.inl ⟨by rfl, ?_⟩) hHeld ?_
          rotate_left
          · rintro w' ⟨hc1, hc2⟩; go_simp; rfl
          try simp only [Act.put, List.setIfInBounds_toArray, List.set_cons_zero, List.set_cons_succ]
          refine takeL (i := 6) (v := .pointer (some ⟨pb, po + i4, none⟩)) rfl (by kernel_rfl) (by kernel_rfl) (by kernel_rfl) (fun _ _ _ h => h) (Or.inl ⟨by rfl, ?_⟩) hHeld ?_
          · rintro w' ⟨hc1, hc2⟩; go_simp; try rfl
          try simp only [Act.put, List.setIfInBounds_toArray, List.set_cons_zero, List.set_cons_succ]
          refine takeL (i := 7) (v := .slice ta k tc) rfl (by kernel_rfl) (by kernel_rfl) (by kernel_rfl) (fun _ _ _ h => h) (Or.inl ⟨by rfl, ?_⟩) hHeld ?_
          · rintro w' ⟨hc1, hc2⟩; go_simp; try rfl
          try simp only [Act.put, List.setIfInBounds_toArray, List.set_cons_zero, List.set_cons_succ]
          refine wpAnyH_ready (rs := [8]) (by kernel_rfl) (by simp) ?_
          refine consL rfl (fun KK hKK => ?_) AllReadyH.nil
          refine step_callv (by rfl) 6 [.tmp 64, .tmp 68] _ [.slice (some ⟨g, 0, none⟩) k (k + 2), .slice ta k tc] _ (by rfl) (by rfl) (enter6 _ _) (C6.out wd HPd.out) ?_
          rintro e w7 ⟨rfl, hg7⟩
          have HP7 : Hid (P4 G w5 w7 rs (i4 + 1)) := hid (HPd.out.step (Nat.le_trans hGM hM5) HIR.out (by rw [HRr.out]; exact hg7) (by rw [HRr.out]; exact HGg.out))
          clear hg7
          refine ⟨_, rfl, ?_⟩
          refine hKK.out _ _ (HSS.out _ _ HP7.out) (fun hHeld2 => ?_)
          clear hKK KK
          try simp only [Act.put, List.setIfInBounds_toArray, List.set_cons_zero, List.set_cons_succ]
          refine takeL (i := 9) (v := ?_) rfl (by kernel_rfl) (by kernel_rfl) (by kernel_rfl) (fun _ _ _ h => h) (Or.inl ⟨by rfl, ?_⟩) hHeld2 ?_
          rotate_left
          · rintro w' ⟨hc1, hc2⟩; go_simp; rfl
          try simp only [Act.put, List.setIfInBounds_toArray, List.set_cons_zero, List.set_cons_succ]
          refine wpAnyH_done (by kernel_rfl) ?_ _
          clear hHeld hHeld2
          go_wp2
          go_roundg (n - (i4 + 1))
          case measure => omega
          case rel => exact ⟨i4 + 1, by go_num, by omega, rfl, HP7⟩
        · have hlt4i : ¬ (i4 : Int) < (n : Int) := by omega
          have HPX : Hid (PB w6 ax cx X) := hid (by
            rcases HX5.out with ⟨rfl, rfl, rfl⟩ | ⟨xg, rfl, hM, hpb, hlt⟩
            · exact pb_none w6
            · exact pb_blk hpb (HP4.out.blk xg hlt (fun j hj hjl e => by
                have := (HRM.out j (by rw [← HRN.out]; exact hjl)).1
                omega)) (Nat.lt_of_lt_of_le hlt HP4.out.size))
          have C7 : Hid (Calls Tryd.prog 7 #[.slice a n cap] w6 (PostPd ts w6)) := hid (by
            have := refPkt_any a cap ts (HTW.out w6 HBw6.out) (HAW.out w6 HBw6.out) (by rw [HN.out]; omega)
            rw [HN.out] at this
            exact this)
          have hG6 : G ≤ w6.heap.size := by rw [← HG.out]; exact HBw6.out.size
          go_wp2_with fail
          refine C7.out.mono ?_
          rintro e w7 ⟨hb7, hor⟩
          obtain ⟨ay, cy, he7, hy7⟩ : ∃ ay cy, e = .returned (.tuple #[.slice ay K cy, .int .i64 f]) ∧ PB w7 ay cy X := by
            rcases HTO.out with ⟨h1, h2, h3, h4⟩ | ⟨h1, h2, h3, h4⟩
            · rcases hor with ⟨_, v, rfl, h5⟩ | ⟨h5, _⟩
              · rw [← h2] at h5
                obtain ⟨ay, cy, hv, hpb, _⟩ := own_pb h5
                rw [HKX.out] at hv
                exact ⟨ay, cy, by rw [hv, h4], hpb⟩
              · exact absurd h1 h5
            · rcases hor with ⟨h5, _⟩ | ⟨_, rfl⟩
              · exact absurd h5 h1
              · have hK0 : K = 0 := by rw [← HKX.out, h2]; rfl
                exact ⟨none, 0, by rw [hK0, h4], by rw [h2]; exact pb_none w7⟩
          subst he7
          have HB7 : Hid (Below G w w7) := hid (HBw6.out.trans (hb7.mono hG6))
          have HPX7 : Hid (PB w7 ax cx X) := hid (HPX.out.below hb7)
          have HKB : Hid (K ≤ 12240) := hid (by
            rcases HTO.out with ⟨_, h2, _, _⟩ | ⟨_, h2, _, _⟩
            · rw [← HKX.out, h2, HQ.out]; omega
            · rw [← HKX.out, h2]; simp)
          have C8 : Hid (Calls Tryd.prog 8 #[.slice ax K cx, .slice ay K cy] w7 fun e w' => e = .returned (.bool true) ∧ Below w7.heap.size w7 w') := hid (by
            have := sameB ax ay cx cy X HPX7.out hy7 (by rw [HKX.out]; have := HKB.out; omega)
            rw [HKX.out] at this
            exact this)
          have hG7 : G ≤ w7.heap.size := by rw [← HG.out]; exact HB7.out.size
          clear hb7 hor hy7
          go_wp2_with fail
          refine C8.out.mono ?_
          rintro e w8 ⟨rfl, hb8⟩
          have HB8 : Hid (Below G w w8) := hid (HB7.out.trans (hb8.mono hG7))
          have HPX8 : Hid (PB w8 ax cx X) := hid (HPX7.out.below hb8)
          have hG8 : G ≤ w8.heap.size := by rw [← HG.out]; exact HB8.out.size
          clear hb8
          have C9 : Hid (Calls Tryd.prog 9 #[ev] w8 fun e w' => e = .returned (.int .i64 f) ∧ Below w8.heap.size w8 w') := hid (by
            rcases HTO.out with ⟨_, _, h3, h4⟩ | ⟨_, _, h3, h4⟩
            · rw [h3, h4]; exact tell_nil w8
            · rw [h3, h4]; exact tell_errno 110 w8 (HGW.out w8 HB8.out))
          have hff : (f != f) = false := by simp
          go_wp2_with fail
          refine C9.out.mono ?_
          rintro e w9 ⟨rfl, hb9⟩
          have HB9 : Hid (Below G w w9) := hid (HB8.out.trans (hb9.mono hG8))
          have HPX9 : Hid (PB w9 ax cx X) := hid (HPX8.out.below hb9)
          have hG9 : G ≤ w9.heap.size := by rw [← HG.out]; exact HB9.out.size
          clear hb9
          go_wp2_with fail
          refine (C10.out w9 HB9.out).mono ?_
          rintro e w10 ⟨rfl, hb10⟩
          have HB10 : Hid (Below G w w10) := hid (HB9.out.trans (hb10.mono hG9))
          have HPX10 : Hid (PB w10 ax cx X) := hid (HPX9.out.below hb10)
          have hG10 : G ≤ w10.heap.size := by rw [← HG.out]; exact HB10.out.size
          clear hb10
          by_cases hf0 : f = 0
          · have hfb : (f != 0) = false := by simp [hf0]
            have C10b : Hid (Calls Tryd.prog 10 #[.slice ax K cx] w10 fun e w' => e = .returned (.bool true) ∧ Below w10.heap.size w10 w') := hid (by
              have := linesL_any ax cx X HPX10.out (by rw [HKX.out]; have := HKB.out; omega) (HGW.out w10 HB10.out) (HEW.out w10 HB10.out) (HDW.out w10 HB10.out)
              rw [HKX.out] at this
              exact this)
            clear hf0
            go_wp2_with fail
            refine C10b.out.mono ?_
            rintro e w11 ⟨rfl, hb11⟩
            have HB11 : Hid (Below G w w11) := hid (HB10.out.trans (hb11.mono hG10))
            clear hb11
            go_wp2
            go_ret
            exact ⟨rfl, HB11.out⟩
          · have hfb : (f != 0) = true := by simp [hf0]
            have hK0 : K = 0 := by
              rcases HTO.out with ⟨_, _, _, h4⟩ | ⟨_, h2, _, _⟩
              · exact absurd h4 hf0
              · rw [← HKX.out, h2]; rfl
            subst hK0
            clear hf0
            go_wp2
            go_ret
            exact ⟨rfl, HB10.out⟩
end Go.Proofs.YtbcbikdfidmecaaDoor
