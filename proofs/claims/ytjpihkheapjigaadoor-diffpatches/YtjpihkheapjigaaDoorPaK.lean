/- 'writeHunks'. -/
import Derived.Test.YtjpihkheapjigaaDoorPaJ
namespace Go.Proofs.YtjpihkheapjigaaDoor
open Go.RowKit
set_option linter.unusedVariables false
set_option linter.unusedSimpArgs false
theorem PH.three {a : Option Addr} {ca : Nat} {L : List Ed} {w : World} {b off cap : Nat} {l : List Sp} (h : PH a ca L w (some ⟨b, off, none⟩) cap l) (i : Nat) (hi : i < l.length) : w.cell? ⟨b, off + i * 3, none⟩ = some (.int .i64 ((cA (L.take (l.getD i (0, 0)).1) : Nat) : Int)) ∧ w.cell? ⟨b, off + i * 3 + 1, none⟩ = some (.int .i64 ((cB (L.take (l.getD i (0, 0)).1) : Nat) : Int)) ∧ w.cell? ⟨b, off + i * 3 + 2, none⟩ = some (.slice (adX 2 a ca (l.getD i (0, 0)).1) ((l.getD i (0, 0)).2 - (l.getD i (0, 0)).1 : Nat) (ca - (l.getD i (0, 0)).1 : Nat)) := by
  obtain ⟨b', off', e1, _, e3⟩ := h.at_ (by omega)
  cases e1
  have h0 := e3 i hi 0 _ rfl
  have h1 := e3 i hi 1 _ rfl
  have h2 := e3 i hi 2 _ rfl
  exact ⟨h0, h1, h2⟩
/-- The builder has l. -/
abbrev Bd (G : Nat) (w : World) (l : Str) : Prop := Lib.IsBuilder 39 5 G G (Lib.byteCells l) w
theorem ws_any (G : Nat) (W : World) (T X : Str) (h : Bd G W T) (hl : T.length + X.length ≤ 1000000000000) (hG : G ≤ W.heap.size) : Calls Tryd.prog 13 #[.pointer (some ⟨G, 0, none⟩), .string ⟨X.toArray⟩] W fun e w' => (∃ v, e = .returned v) ∧ Bd G w' (T ++ X) ∧ Below G W w' ∧ Oth G W w' := by
  refine (writeString_any G G (Lib.byteCells T) ⟨X.toArray⟩ W h (by rw [Lib.byteCells_length]; show T.length + X.toArray.size ≤ _; simp; omega) hG).mono ?_
  rintro e w' ⟨rfl, h1, h2, h3⟩
  refine ⟨⟨_, rfl⟩, .inr ?_, h2, h3⟩
  rw [str_bytes, bytes_app] at h1
  exact h1
set_option maxRecDepth 20000 in
set_option maxHeartbeats 2000000 in
theorem writeHunks_any {w : World} (a : Option Addr) (ca : Nat) (L : List Ed) (hA : PE w a ca L) (hl : L.length ≤ 10000) (hL : ∀ e ∈ L, e.1 ≤ 2 ∧ e.2.length ≤ 4000) (ha : Option Addr) (hc : Nat) (S : List Sp) (hS : PH a ca L w ha hc S) (hq : S.length ≤ 10000) (hok : ∀ s ∈ S, s.1 ≤ s.2 ∧ s.2 ≤ L.length) (ht : Tab w) :
    Calls Tryd.prog 7 #[.slice ha S.length hc] w (PostY (S.flatMap (hkT L)) w) := by
  obtain ⟨n, HN⟩ : ∃ n, Hid (L.length = n) := ⟨_, rfl⟩
  obtain ⟨G, HG⟩ : ∃ G, Hid (w.heap.size = G) := ⟨_, rfl⟩
  obtain ⟨q, HQ⟩ : ∃ q, Hid (S.length = q) := ⟨_, rfl⟩
  have hn4 : n ≤ 10000 := by rw [← HN.out]; exact hl
  have hq4 : q ≤ 10000 := by rw [← HQ.out]; exact hq
  have HOK : Hid (∀ s ∈ S, s.1 ≤ s.2 ∧ s.2 ≤ n) := fun s hs => by rw [← HN.out]; exact hok s hs
  have HLL : Hid (∀ e ∈ L, e.1 ≤ 2 ∧ e.2.length ≤ 4000) := hL
  have HPA : Hid (∀ W, Below G w W → PE W a ca L) := fun W hW => hA.below (by rw [HG.out]; exact hW)
  have HPS : Hid (∀ W, Below G w W → PH a ca L W ha hc S) := fun W hW => hS.below (by rw [HG.out]; exact hW)
  have HTB : Hid (∀ W, Below G w W → Tab W) := fun W hW => ht.below (by rw [HG.out]; exact hW)
  have HFS : Hid (0 < q → ∃ b off, ha = some ⟨b, off, none⟩) := fun h0 => by
    obtain ⟨b, off, e1, _⟩ := hS.at_ (by rw [HQ.out]; exact h0)
    exact ⟨b, off, e1⟩
  have HHK : Hid (∀ s, (hkT L s).length ≤ 40300040) := fun s => hkT_le L s hl (fun e he => (hL e he).2)
  have HB0 : Hid (Bd G (w.alloc (.cells #[.pointer none, .slice none 0 0] 39)) []) := hid (.inl (by
    refine ⟨Nat.le_refl _, .slice none 0 0, ?_, ⟨by simp, .inl ⟨rfl, rfl⟩⟩, by simp [Value.ownBlock]⟩
    rw [← HG.out]
    exact heap_alloc_new w _))
  have HW0 : Hid (Below G w (w.alloc (.cells #[.pointer none, .slice none 0 0] 39))) := hid ((Below.refl _ w).alloc (by rw [HG.out]; exact Nat.le_refl _) _)
  rw [HQ.out]
  clear hA hl hL hS hq hok ht
  go_enter Tryd.func7, Tryd.ntmps7
  go_wp2_with fail
  try rw [HG.out]
  go_loopg [10] q (fun gg iv wr => ∃ (i : Nat), iv = .int .i64 i ∧ i ≤ q ∧ gg = q - i ∧ Hid (Below G w wr) ∧ Hid (Bd G wr ((S.take i).flatMap (hkT L))) ∧ Hid (G < wr.heap.size) ∧ Hid (i = 0 → wr.heap[G]? = some (.cells #[.pointer none, .slice none 0 0] 39 (0, 0))))
  case atStart => exact ⟨0, rfl, Nat.zero_le _, rfl, HW0, HB0, hid (by rw [← HG.out]; simp), hid (fun _ => by rw [← HG.out]; exact heap_alloc_new w _)⟩
  case round =>
    obtain ⟨i, rfl, hi, hk, HB, HBd, HGs, HFr⟩ := hrel
    by_cases hlt : i < q
    · have hlti : (i : Int) < (q : Int) := by omega
      obtain ⟨b, off, e1⟩ := HFS.out (by omega)
      subst e1
      obtain ⟨s, HS⟩ : ∃ s, Hid (S.getD i (0, 0) = s) := ⟨_, rfl⟩
      obtain ⟨hfe, hen⟩ := HOK.out _ (getD_mem S i (0, 0) (by rw [HQ.out]; exact hlt))
      rw [HS.out] at hfe hen
      obtain ⟨hc0, hc1, hc2⟩ := PH.three (HPS.out _ HB.out) i (by rw [HQ.out]; exact hlt)
      rw [HS.out] at hc0 hc1 hc2
      obtain ⟨x, HX⟩ : ∃ k, Hid (cA (L.take s.1) = k) := ⟨_, rfl⟩
      obtain ⟨y, HY⟩ : ∃ k, Hid (cB (L.take s.1) = k) := ⟨_, rfl⟩
      obtain ⟨z, HZ⟩ : ∃ k, Hid (adX 2 a ca s.1 = k) := ⟨_, rfl⟩
      obtain ⟨l, HLn⟩ : ∃ k, Hid (s.2 - s.1 = k) := ⟨_, rfl⟩
      obtain ⟨zc, HZc⟩ : ∃ k, Hid (ca - s.1 = k) := ⟨_, rfl⟩
      obtain ⟨M, HM⟩ : ∃ M, Hid (seg L s = M) := ⟨_, rfl⟩
      have HMl : Hid (M.length = l) := hid (by rw [← HM.out, ← HLn.out]; exact seg_len L s hfe (by rw [HN.out]; exact hen))
      have hl4 : l ≤ 10000 := by rw [← HLn.out]; omega
      have hx4 : x ≤ 10000 := by rw [← HX.out]; have := cA_le (L.take s.1); rw [List.length_take, HN.out] at this; omega
      have hy4 : y ≤ 10000 := by rw [← HY.out]; have := cB_le (L.take s.1); rw [List.length_take, HN.out] at this; omega
      have HPM : Hid (∀ W, Below G w W → PE W z zc M) := fun W hW => by
        have := (HPA.out W hW).mid s.1 s.2 hfe (by rw [HN.out]; exact hen)
        rw [HZ.out, HZc.out, ← seg_eq L s hfe, HM.out] at this
        exact this
      have HMe : Hid (∀ e ∈ M, e.1 ≤ 2 ∧ e.2.length ≤ 4000) := fun e he => HLL.out e (seg_mem L s e (by rw [HM.out]; exact he))
      rw [HX.out] at hc0
      rw [HY.out] at hc1
      rw [HZ.out, HLn.out, HZc.out] at hc2
      obtain ⟨T0, HT0⟩ : ∃ T, Hid ((S.take i).flatMap (hkT L) = T) := ⟨_, rfl⟩
      obtain ⟨H0, HH0⟩ : ∃ T, Hid (headT x (cA M) y (cB M) = T) := ⟨_, rfl⟩
      have HTK : Hid ((S.take (i + 1)).flatMap (hkT L) = T0 ++ (H0 ++ M.flatMap lineT)) := hid (by
        rw [take_snocG (0, 0) S i (by rw [HQ.out]; exact hlt), List.flatMap_append, HT0.out, HS.out, List.flatMap_cons, List.flatMap_nil, List.append_nil, hkT, HM.out, HX.out, HY.out, HH0.out])
      have HTl : Hid (T0.length ≤ 10000 * 40300040) := hid (by
        rw [← HT0.out]
        refine Nat.le_trans (flat_le (hkT L) 40300040 _ (fun s _ => HHK.out s)) (Nat.mul_le_mul_right _ ?_)
        rw [List.length_take]
        omega)
      have hH0 : H0.length ≤ 40 := by
        rw [← HH0.out]
        exact headT_le _ _ _ _ (by omega) (by have := cA_le M; have := HMl.out; omega) (by omega) (by have := cB_le M; have := HMl.out; omega)
      obtain ⟨g, HGg⟩ : ∃ g, Hid (wr.heap.size = g) := ⟨_, rfl⟩
      obtain ⟨wa, HWa⟩ : ∃ u, Hid (wr.alloc (.cells #[.int .i64 (x : Int), .int .i64 (y : Int), .slice z l zc] 41) = u) := ⟨_, rfl⟩
      have HBa : Hid (Below G w wa) := hid (by rw [← HWa.out]; exact HB.out.alloc (Nat.le_of_lt HGs.out) _)
      have HBw : Hid (Below wr.heap.size wr wa) := hid (by rw [← HWa.out]; exact (Below.refl _ wr).alloc (Nat.le_refl _) _)
      have HBda : Hid (Bd G wa T0) := hid (by rw [← HT0.out]; exact is_below HBd.out HBw.out)
      have HGa : Hid (wa.heap[g]? = some (.cells #[.int .i64 (x : Int), .int .i64 (y : Int), .slice z l zc] 41)) := hid (by rw [← HWa.out, ← HGg.out]; exact heap_alloc_new wr _)
      have C14 : Hid (Calls Tryd.prog 14 #[.agg #[.int .i64 (x : Int), .int .i64 (y : Int), .slice z l zc]] wa fun e w' => e = .returned (.string ⟨H0.toArray⟩) ∧ Below wa.heap.size wa w') := hid (by
        have := head_any x y z zc M (HPM.out wa HBa.out) (by rw [HMl.out]; exact hl4) (by omega) (by omega) (HTB.out wa HBa.out)
        rw [HMl.out, HH0.out] at this
        exact this)
      have HGG : Hid (G < g) := hid (by rw [← HGg.out]; exact HGs.out)
      go_wp2_with fail
      rw [HWa.out, HGg.out]
      refine C14.out.mono ?_
      rintro ev w2 ⟨rfl, hb2⟩
      have HGwa : Hid (G ≤ wa.heap.size) := hid (Nat.le_trans (Nat.le_of_lt HGs.out) HBw.out.size)
      have HBd2 : Hid (Bd G w2 T0) := hid (is_below HBda.out hb2)
      have HB2 : Hid (Below G w w2) := hid (HBa.out.trans (hb2.mono HGwa.out))
      have HGa2 : Hid (w2.heap[g]? = some (.cells #[.int .i64 (x : Int), .int .i64 (y : Int), .slice z l zc] 41)) := hid ((hb2.block g (lt_of_some HGa.out)).trans HGa.out)
      have C13 : Hid (Calls Tryd.prog 13 #[.pointer (some ⟨G, 0, none⟩), .string ⟨H0.toArray⟩] w2 fun e w' => (∃ v, e = .returned v) ∧ Bd G w' (T0 ++ H0) ∧ Below G w2 w' ∧ Oth G w2 w') := hid (ws_any G w2 T0 H0 HBd2.out (by have := HTl.out; omega) (Nat.le_trans HGwa.out hb2.size))
      clear hb2
      go_wp2_with fail
      refine C13.out.mono ?_
      rintro ev w3 ⟨⟨v3, rfl⟩, hbd3, hb3, ho3⟩
      have HBd3 : Hid (Bd G w3 (T0 ++ H0)) := hbd3
      have HB3 : Hid (Below G w w3) := hid (HB2.out.trans hb3)
      have HGa3 : Hid (w3.heap[g]? = some (.cells #[.int .i64 (x : Int), .int .i64 (y : Int), .slice z l zc] 41)) := hid (ho3 g _ 41 _ HGa2.out (fun e => by have := HGG.out; omega) (by decide))
      have hd2 : w3.cell? ⟨g, 2, none⟩ = some (.slice z l zc) := by rw [Lib.cell_of_heap HGa3.out]; rfl
      have HG3 : Hid (G < w3.heap.size) := hid (Nat.lt_trans HGG.out (lt_of_some HGa3.out))
      clear hbd3 hb3 ho3
      go_wp2_with fail
      go_loopg [20] l (fun gg iv wq => ∃ (k : Nat), iv = .int .i64 k ∧ k ≤ l ∧ gg = l - k ∧ Hid (Below G w wq) ∧ Hid (Bd G wq (T0 ++ H0 ++ (M.take k).flatMap lineT)) ∧ Hid (G < wq.heap.size))
      case atStart => exact ⟨0, rfl, Nat.zero_le _, rfl, HB3, hid (by simpa using HBd3.out), HG3⟩
      case round =>
        clear hd2 hc0 hc1 hc2
        obtain ⟨k, rfl, hkl, hkk, HBq, HBdq, HGq⟩ := hrel
        by_cases hkt : k < l
        · have hkti : (k : Int) < (l : Int) := by omega
          obtain ⟨zb, zo, e2⟩ : ∃ zb zo, z = some ⟨zb, zo, none⟩ := by
            obtain ⟨b', off', e1, _⟩ := (HPM.out _ HBq.out).at_ (by rw [HMl.out]; omega)
            exact ⟨b', off', e1⟩
          subst e2
          obtain ⟨kd, HKd⟩ : ∃ k', Hid ((M.getD k (0, [])).1 = k') := ⟨_, rfl⟩
          obtain ⟨xs, HXs⟩ : ∃ X, Hid ((M.getD k (0, [])).2 = X) := ⟨_, rfl⟩
          obtain ⟨hm1, hm2⟩ := HMe.out _ (getD_mem M k (0, []) (by rw [HMl.out]; exact hkt))
          rw [HKd.out] at hm1
          rw [HXs.out] at hm2
          obtain ⟨hd0, hd1⟩ := PE.two (HPM.out _ HBq.out) k (by rw [HMl.out]; exact hkt)
          rw [HKd.out] at hd0
          rw [HXs.out] at hd1
          obtain ⟨X, HX2⟩ : ∃ X, Hid ((⟨xs.toArray⟩ : ByteArray) = X) := ⟨_, rfl⟩
          rw [HX2.out] at hd1
          obtain ⟨T1, HT1⟩ : ∃ T, Hid (T0 ++ H0 ++ (M.take k).flatMap lineT = T) := ⟨_, rfl⟩
          obtain ⟨Y, HYl⟩ : ∃ T, Hid (lineT (kd, xs) = T) := ⟨_, rfl⟩
          have HTK1 : Hid (T0 ++ H0 ++ (M.take (k + 1)).flatMap lineT = T1 ++ Y) := hid (by
            rw [take_snocG (0, []) M k (by rw [HMl.out]; exact hkt), List.flatMap_append, List.flatMap_cons, List.flatMap_nil, List.append_nil, show M.getD k (0, []) = (kd, xs) by rw [← HKd.out, ← HXs.out], HYl.out, ← HT1.out, List.append_assoc (T0 ++ H0)])
          have HT1l : Hid (T1.length + Y.length ≤ 1000000000000) := hid (by
            have h1 : ((M.take k).flatMap lineT).length ≤ (M.take k).length * 4030 := flat_le lineT 4030 _ (fun e he => lineT_le e (HMe.out e (List.mem_of_mem_take he)).2)
            have h2 : (M.take k).length ≤ 10000 := by rw [List.length_take]; omega
            have h3 : (M.take k).length * 4030 ≤ 10000 * 4030 := Nat.mul_le_mul_right _ h2
            have h4 : Y.length ≤ 4030 := by rw [← HYl.out]; exact lineT_le _ hm2
            have h5 := HTl.out
            rw [← HT1.out, List.length_append, List.length_append]
            omega)
          obtain ⟨wb, HWb⟩ : ∃ u, Hid (wr.alloc (.cells #[.int .i64 (kd : Int), .string X] 49) = u) := ⟨_, rfl⟩
          have HBb : Hid (Below wr.heap.size wr wb) := hid (by rw [← HWb.out]; exact (Below.refl _ wr).alloc (Nat.le_refl _) _)
          have C15 : Hid (Calls Tryd.prog 15 #[.agg #[.int .i64 (kd : Int), .string X]] wb fun e w' => e = .returned (.string ⟨Y.toArray⟩) ∧ Below wb.heap.size wb w') := hid (by
            rw [← HX2.out, ← HYl.out]
            exact writeEdit_any kd xs hm1 (by omega) wb)
          go_wp2_with fail
          rw [HWb.out]
          refine C15.out.mono ?_
          rintro ev w5 ⟨rfl, hb5⟩
          have HB5 : Hid (Below wr.heap.size wr w5) := hid (HBb.out.trans (hb5.mono HBb.out.size))
          have HBd5 : Hid (Bd G w5 T1) := hid (by rw [← HT1.out]; exact is_below HBdq.out HB5.out)
          have HG5 : Hid (G < w5.heap.size) := hid (Nat.lt_of_lt_of_le HGq.out HB5.out.size)
          have HBw5 : Hid (Below G w w5) := hid (HBq.out.trans (HB5.out.mono (Nat.le_of_lt HGq.out)))
          have C13 : Hid (Calls Tryd.prog 13 #[.pointer (some ⟨G, 0, none⟩), .string ⟨Y.toArray⟩] w5 fun e w' => (∃ v, e = .returned v) ∧ Bd G w' (T1 ++ Y) ∧ Below G w5 w' ∧ Oth G w5 w') := hid (ws_any G w5 T1 Y HBd5.out HT1l.out (Nat.le_of_lt HG5.out))
          clear hb5
          go_wp2_with fail
          refine C13.out.mono ?_
          rintro ev w6 ⟨⟨v6, rfl⟩, hbd6, hb6, _⟩
          have HBd6 : Hid (Bd G w6 (T1 ++ Y)) := hbd6
          have HB6 : Hid (Below G w w6) := hid (HBw5.out.trans hb6)
          have HG6 : Hid (G < w6.heap.size) := hid (Nat.lt_of_lt_of_le HG5.out hb6.size)
          clear hbd6 hb6
          go_wp2_with fail
          go_roundg (l - (k + 1))
          case measure => omega
          case rel => exact ⟨k + 1, by go_num, by omega, rfl, HB6, hid (by rw [HTK1.out]; exact HBd6.out), HG6⟩
        · have hge : ¬ ((k : Int) < (l : Int)) := by omega
          have HE : Hid (T0 ++ H0 ++ (M.take k).flatMap lineT = (S.take (i + 1)).flatMap (hkT L)) := hid (by
            rw [List.take_of_length_le (by rw [HMl.out]; omega), HTK.out, List.append_assoc])
          go_wp2_with fail
          go_roundg (q - (i + 1))
          case measure => omega
          case rel => exact ⟨i + 1, by go_num, by omega, rfl, HBq, hid (by rw [← HE.out]; exact HBdq.out), HGq, hid (fun h => by omega)⟩
    · have hge : ¬ ((i : Int) < (q : Int)) := by omega
      have ei : i = q := by omega
      subst ei
      obtain ⟨T, HT⟩ : ∃ T, Hid (S.flatMap (hkT L) = T) := ⟨_, rfl⟩
      have HBT : Hid (Bd G wr T) := hid (by
        have h := HBd.out
        rw [List.take_of_length_le (by rw [HQ.out]; exact Nat.le_refl _), HT.out] at h
        exact h)
      have C16 : Hid (Calls Tryd.prog 16 #[.pointer (some ⟨G, 0, none⟩)] wr fun e w' => e = .returned (.string ⟨T.toArray⟩) ∧ Below G wr w') := hid (by
        by_cases h0 : T = []
        · have hS0 : S = [] := by
            cases S with
            | nil => rfl
            | cons s0 S0 =>
              rw [← HT.out] at h0
              simp [hkT, headT] at h0
          have hi0 : i = 0 := by rw [← HQ.out, hS0]; rfl
          rw [h0]
          exact builder_none G G _ wr (HFr.out hi0)
        · exact builder_str G G T wr HBT.out h0)
      go_wp2_with fail
      refine C16.out.mono ?_
      rintro ev w4 ⟨rfl, hb4⟩
      obtain ⟨cap, w5, hcv, hpb, hb5⟩ := conv_bytes T w4
      have HPB : Hid (PB w5 (some ⟨w4.heap.size, 0, none⟩) cap T) := hpb
      have HB5 : Hid (Below G w w5) := hid (HB.out.trans (hb4.trans (hb5.mono (by have := HGs.out; have := hb4.size; omega))))
      clear hb4 hpb hb5
      go_wp2_with fail
      go_ret
      have e := HT.out
      subst e
      exact ⟨_, _, rfl, HPB.out, by rw [HG.out]; exact HB5.out⟩
end Go.Proofs.YtjpihkheapjigaaDoor
