/- The document's 'WriteWant'. -/
import Derived.Test.YtijeogdnjeamaaaGreatDoorWgB
namespace Go.Proofs.YtijeogdnjeamaaaGreatDoor
open Go.RowKit
set_option linter.unusedVariables false
set_option linter.unusedSimpArgs false
def PostWD (W H : List (List Int)) (w : World) (G : Nat) (e : Ending) (w' : World) : Prop :=
  Below G w w' ∧ ((W.Nodup ∧ H.Nodup ∧ ∃ v, e = .returned (.tuple #[v, .int .i64 0]) ∧ w'.ownsRow G 5 1 v (wB W H).length (bv (wB W H))) ∨ (¬ (W.Nodup ∧ H.Nodup) ∧ e = .returned (.tuple #[.slice none 0 0, .int .i64 111])))
theorem Tryz.results15 : Tryz.f15.results = #[.tmp 4, .tmp 5] := by kernel_rfl
/-- Bytes of ids' texts, one more. -/
theorem idT_snoc (p : Str) (l : List (List Int)) (i : Nat) (x : List Int) (h : i < l.length) (hx : l.getD i [] = x) : pktL ((idT p (l.take (i + 1))).map tx) = pktL ((idT p (l.take i)).map tx) ++ pkt (tx (p ++ hxS x)) := by
  rw [take_snocG [] l i h, hx]
  simp [idT, pktL]
theorem idT_blen (p : Str) (hp : p.length = 5) : ∀ (l : List (List Int)), IdL l → (pktL ((idT p l).map tx)).length = 50 * l.length
  | [], _ => rfl
  | x :: l, h => by
    have ih := idT_blen p hp l (fun y hy => h y (by simp [hy]))
    have e : pktL ((idT p (x :: l)).map tx) = pkt (tx (p ++ hxS x)) ++ pktL ((idT p l).map tx) := rfl
    have h1 : tx (p ++ hxS x) = (p ++ hxS x) ++ [10] := by
      rw [tx, if_neg]
      intro h2
      have h3 := congrArg List.length h2
      rw [List.length_append, hp] at h3
      simp at h3
    rw [e, List.length_append, pkt_len, ih, h1, List.length_append, List.length_append, hp, hxS_len x (h x (by simp)), List.length_cons]
    simp
    omega
theorem IdL.take {l : List (List Int)} (h : IdL l) (i : Nat) : IdL (l.take i) := fun x hx => h x (List.mem_of_mem_take hx)
theorem wB_parts (W H : List (List Int)) : wB W H = ((pktL ((idT wWord W).map tx) ++ [48, 48, 48, 48]) ++ pktL ((idT hWord H).map tx)) ++ pkt (tx dWord) := by
  unfold wB wtx
  rw [List.map_append, List.map_append, List.map_append, pktL_app, pktL_app, pktL_app]
  have e1 : pktL (List.map tx [[]]) = [48, 48, 48, 48] := rfl
  have e2 : pktL (List.map tx [dWord]) = pkt (tx dWord) := by simp [pktL]
  rw [e1, e2]
theorem wB_blen (W H : List (List Int)) (hW : IdL W) (hH : IdL H) : (wB W H).length = 50 * W.length + 50 * H.length + 13 := by
  rw [wB_parts, List.length_append, List.length_append, List.length_append, idT_blen wWord rfl W hW, idT_blen hWord rfl H hH, pkt_len]
  have : (tx dWord).length = 5 := rfl
  simp [this]
  omega
set_option maxRecDepth 20000 in
set_option maxHeartbeats 4000000 in
theorem refWriteWant_any {w : World} (a : Option Addr) (cap : Nat) (W : List (List Int)) (hP : Pa w a cap W) (hW : IdL W) (hn : W.length ≤ 400) (b : Option Addr) (cbp : Nat) (H : List (List Int)) (hQ : Pa w b cbp H) (hH : IdL H) (hm : H.length ≤ 400) :
    Calls Tryz.prog 15 #[.slice a W.length cap, .slice b H.length cbp] w (PostWD W H w w.heap.size) := by
  obtain ⟨n, HN⟩ : ∃ n, Hid (W.length = n) := ⟨_, rfl⟩
  obtain ⟨m, HM⟩ : ∃ n, Hid (H.length = n) := ⟨_, rfl⟩
  obtain ⟨G, HG⟩ : ∃ n, Hid (w.heap.size = n) := ⟨_, rfl⟩
  have hn4 : n ≤ 400 := by rw [← HN.out]; exact hn
  have hm4 : m ≤ 400 := by rw [← HM.out]; exact hm
  have HGS : Hid (∀ X, Below G w X → G ≤ X.heap.size) := hid (fun X hX => by have := hX.size; have := HG.out; omega)
  have C1 : Hid (Calls Tryz.prog 39 #[.slice a n cap] w fun e w' => BI (¬ W.Nodup) e ∧ Below G w w') := hid (by
    rw [← HN.out, ← HG.out]
    exact twice_any a cap W hP hW (by omega))
  have C2 : Hid (∀ X, Below G w X → Calls Tryz.prog 39 #[.slice b m cbp] X fun e w' => BI (¬ H.Nodup) e ∧ Below X.heap.size X w') := hid (fun X hX => by
    rw [← HM.out]
    exact twice_any b cbp H (hQ.below (by rw [HG.out]; exact hX)) hH (by omega))
  have HPA : Hid (∀ X, Below G w X → Pa X a cap W) := hid (fun X hX => hP.below (by rw [HG.out]; exact hX))
  have HPQ : Hid (∀ X, Below G w X → Pa X b cbp H) := hid (fun X hX => hQ.below (by rw [HG.out]; exact hX))
  have HFA : Hid (0 < n → ∃ bb off, a = some ⟨bb, off, none⟩) := hid (fun h => by
    obtain ⟨b, off, e1, _⟩ := hP.at_ (by rw [HN.out]; exact h)
    exact ⟨b, off, e1⟩)
  have HFB : Hid (0 < m → ∃ bb off, b = some ⟨bb, off, none⟩) := hid (fun h => by
    obtain ⟨b, off, e1, _⟩ := hQ.at_ (by rw [HM.out]; exact h)
    exact ⟨b, off, e1⟩)
  have HIW := hid hW
  have HIH := hid hH
  have C34 : Hid (∀ (X : World) (x : List Int) (Y : List Value) (Z : ByteArray), Hid (row .u8 x = Y) → Hid (⟨(hxS x).toArray⟩ = Z) → IdW x → Calls Tryz.prog 34 #[.agg Y.toArray] X fun e w' => e = .returned (.string Z) ∧ Below X.heap.size X w') := hid (fun X x Y Z hY hZ hx => by
    rw [← hY.out, ← hZ.out]
    exact hexD x hx X)
  have C33 : Hid (∀ (X : World) (s : Str) (Z : ByteArray), Hid (⟨s.toArray⟩ = Z) → s ≠ [] → s.length ≤ 990 → Calls Tryz.prog 33 #[.string Z] X (PostLi (tx s) X)) := hid (fun X s Z hZ h1 h2 => by
    rw [← hZ.out]
    exact text_any s h1 h2)
  have hwz : (⟨#[119, 97, 110, 116, 32]⟩ : ByteArray).size = 5 := rfl
  have hhz : (⟨#[104, 97, 118, 101, 32]⟩ : ByteArray).size = 5 := rfl
  rw [HN.out, HM.out, HG.out]
  clear hP hW hn hQ hH hm
  go_enter Tryz.func15, Tryz.ntmps15
  go_wp2_with fail
  refine C1.out.mono ?_
  rintro e w1 ⟨⟨b1, hb1, rfl⟩, hw1⟩
  have HB1 := hid hb1
  have HW1 := hid hw1
  have C2' := hid (C2.out w1 hw1)
  clear hb1 hw1
  go_wp2_with fail
  refine C2'.out.mono ?_
  rintro e w2 ⟨⟨b2, hb2, rfl⟩, hw2⟩
  have HB2 := hid hb2
  have HW2 : Hid (Below G w w2) := hid (HW1.out.trans (hw2.mono (HGS.out w1 HW1.out)))
  clear hb2 hw2
  by_cases hbad : b1 = true ∨ b2 = true
  · have HNN : Hid (¬ (W.Nodup ∧ H.Nodup)) := hid (fun h => by
      rcases hbad with e | e
      · exact HB1.out.1 e h.1
      · exact HB2.out.1 e h.2)
    have hor : (if b1 = true then true else b2) = true := by rcases hbad with e | e <;> simp [e]
    clear HB1 HB2
    cases b1 with
    | true =>
      go_wp2
      refine bodyPost_ret (results_tmp2 Tryz.results15 _ _ _) rfl ?_
      exact ⟨HW2.out, .inr ⟨HNN.out, rfl⟩⟩
    | false =>
      cases b2 with
      | true =>
        go_wp2
        refine bodyPost_ret (results_tmp2 Tryz.results15 _ _ _) rfl ?_
        exact ⟨HW2.out, .inr ⟨HNN.out, rfl⟩⟩
      | false => exact absurd hor (by simp)
  · have hf1 : b1 = false := by cases b1 with
      | true => exact absurd (.inl rfl) hbad
      | false => rfl
    have hf2 : b2 = false := by cases b2 with
      | true => exact absurd (.inr rfl) hbad
      | false => rfl
    subst hf1 hf2
    have HNW : Hid (W.Nodup) := hid (Decidable.byContradiction fun h => by have := HB1.out.2 h; cases this)
    have HNH : Hid (H.Nodup) := hid (Decidable.byContradiction fun h => by have := HB2.out.2 h; cases this)
    clear HB1 HB2 hbad C1 C2 C2'
    have S0 : Hid (Wst G w w2 (.slice none 0 0) (pktL ((idT wWord (W.take 0)).map tx))) := hid ⟨⟨rfl, .inl ⟨rfl, rfl⟩⟩, HW2.out, HGS.out w2 HW2.out⟩
    go_wp2_with fail
    go_loopg [8, 9] n (fun gg bv0 iv wr => ∃ i : Nat, i ≤ n ∧ gg = n - i ∧ iv = .int .i64 i ∧ Hid (Wst G w wr bv0 (pktL ((idT wWord (W.take i)).map tx))))
    case atStart => exact ⟨0, Nat.zero_le _, rfl, rfl, S0⟩
    case round =>
      obtain ⟨i, hi, hk, rfl, HS⟩ := hrel
      have HSL : Hid ((pktL ((idT wWord (W.take i)).map tx)).length ≤ 20000) := hid (by rw [idT_blen wWord rfl _ (HIW.out.take i), List.length_take]; omega)
      by_cases hlt : i < n
      · have hlti : (i : Int) < (n : Int) := by omega
        obtain ⟨bb, off, rfl⟩ := HFA.out (by omega)
        have hil : i < W.length := by rw [HN.out]; exact hlt
        obtain ⟨x, HX⟩ : ∃ x, Hid (W.getD i [] = x) := ⟨_, rfl⟩
        have HXW : Hid (IdW x) := hid (HIW.out x (by rw [← HX.out]; exact getD_mem W i _ hil))
        obtain ⟨Y, HY⟩ : ∃ R : List Value, Hid (row .u8 x = R) := ⟨_, rfl⟩
        have hiY : (Tryz.prog.info? 67).map (·.size) = some Y.length := by rw [← HY.out, row_len, HXW.out.1]; exact size67
        have RR : Hid (wr.rangeAt bb (off + i * 20) Y) := hid (by
          obtain ⟨b', off', e1, _, e3⟩ := (HPA.out wr HS.out.bl).at_ (by rw [HN.out]; omega)
          cases e1
          have := e3 i hil
          rw [HX.out, HY.out] at this
          exact this)
        obtain ⟨Z, HZ⟩ : ∃ Z : ByteArray, Hid (⟨(hxS x).toArray⟩ = Z) := ⟨_, hid rfl⟩
        obtain ⟨T, HT⟩ : ∃ Z : ByteArray, Hid (⟨(wWord ++ hxS x).toArray⟩ = Z) := ⟨_, hid rfl⟩
        have hcat : (⟨#[119, 97, 110, 116, 32]⟩ : ByteArray) ++ Z = T := by rw [← HZ.out, ← HT.out]; exact str_app wWord (hxS x)
        have hzs : Z.size = 40 := by rw [← HZ.out, txt_len]; exact hxS_len x HXW.out
        have CH := hid (C34.out wr x Y Z HY HZ HXW.out)
        have hwl : (wWord ++ hxS x).length = 45 := by rw [List.length_append, hxS_len x HXW.out]; rfl
        have CT : Hid (∀ X, Calls Tryz.prog 33 #[.string T] X (PostLi (tx (wWord ++ hxS x)) X)) := hid (fun X => C33.out X _ T HT (fun e => by rw [e] at hwl; simp at hwl) (by omega))
        have hpl : (pkt (tx (wWord ++ hxS x))).length ≤ 60 := by rw [pkt_len]; have := tx_len (wWord ++ hxS x); omega
        have HPLN := hid hpl
        have HTK : Hid (pktL ((idT wWord (W.take (i + 1))).map tx) = pktL ((idT wWord (W.take i)).map tx) ++ pkt (tx (wWord ++ hxS x))) := hid (idT_snoc wWord W i x hil HX.out)
        clear hil hwl hpl
        go_wp2_with (first
          | (refine wpList_load_mid rfl 67 _ rfl bb (off + i * 20) rfl Y _ RR.out Tryz.underlying67 rfl hiY ?_)
          | fail)
        refine CH.out.mono ?_
        rintro e w4 ⟨rfl, hb4⟩
        have HS4 := hid (HS.out.below hb4)
        clear hb4
        go_wp2_with fail
        refine (CT.out w4).mono ?_
        rintro e w5 ⟨hb5, g, c, rfl, hg, hp⟩
        obtain ⟨K, HK⟩ : ∃ n, Hid ((pkt (tx (wWord ++ hxS x))).length = n) := ⟨_, rfl⟩
        obtain ⟨v6, w6, hr6, hs6⟩ := (HS4.out.below hb5).sl g 0 c (pkt (tx (wWord ++ hxS x))) hp (by have := HSL.out; have := HPLN.out; omega) 25
        rw [HK.out] at hr6
        rw [HK.out]
        have HS6 : Hid (Wst G w w6 v6 (pktL ((idT wWord (W.take (i + 1))).map tx))) := hid (by
          rw [HTK.out]
          exact hs6)
        clear hb5 hg hp hs6
        go_wp2_with (first | (at_builtin; refine wpList_app rfl _ _ 25 25 rfl 25 rfl _ _ rfl rfl hr6 ?_) | fail)
        go_roundg (n - (i + 1))
        case measure => omega
        case rel => exact ⟨i + 1, by omega, rfl, by go_num, HS6⟩
      · have hlti : ¬ (i : Int) < (n : Int) := by omega
        have hdone : W.take i = W := List.take_of_length_le (by rw [HN.out]; omega)
        have hsd := HS.out
        have hsl := HSL.out
        rw [hdone] at hsd hsl
        obtain ⟨v4, w4, hr4, hs4⟩ := hsd.str [48, 48, 48, 48] (by have : ([48, 48, 48, 48] : Str).length = 4 := rfl; omega) 25
        obtain ⟨S1, HS1⟩ : ∃ S, Hid (pktL ((idT wWord W).map tx) ++ [48, 48, 48, 48] = S) := ⟨_, hid rfl⟩
        rw [HS1.out] at hs4
        have HSL1 : Hid (S1.length ≤ 20004) := hid (by rw [← HS1.out, List.length_append]; simp; omega)
        have Q0 : Hid (Wst G w w4 v4 (S1 ++ pktL ((idT hWord (H.take 0)).map tx))) := hid (by
          have e : pktL ((idT hWord (H.take 0)).map tx) = [] := rfl
          rw [e, List.append_nil]
          exact hs4)
        clear HS hsd hsl hs4 hdone
        go_wp2_with (first | (at_builtin; refine wpList_app rfl _ _ 25 9 rfl 25 rfl _ _ rfl rfl hr4 ?_) | fail)
        clear hr4
        go_loopg [8, 11] m (fun gg bv0 iv wr => ∃ i : Nat, i ≤ m ∧ gg = m - i ∧ iv = .int .i64 i ∧ Hid (Wst G w wr bv0 (S1 ++ pktL ((idT hWord (H.take i)).map tx))))
        case atStart => exact ⟨0, Nat.zero_le _, rfl, rfl, Q0⟩
        case round =>
          obtain ⟨i, hi, hk, rfl, HS⟩ := hrel
          have HSL : Hid ((S1 ++ pktL ((idT hWord (H.take i)).map tx)).length ≤ 40100) := hid (by rw [List.length_append, idT_blen hWord rfl _ (HIH.out.take i), List.length_take]; have := HSL1.out; omega)
          by_cases hlt : i < m
          · have hlti : (i : Int) < (m : Int) := by omega
            obtain ⟨bb, off, rfl⟩ := HFB.out (by omega)
            have hil : i < H.length := by rw [HM.out]; exact hlt
            obtain ⟨x, HX⟩ : ∃ x, Hid (H.getD i [] = x) := ⟨_, rfl⟩
            have HXW : Hid (IdW x) := hid (HIH.out x (by rw [← HX.out]; exact getD_mem H i _ hil))
            obtain ⟨Y, HY⟩ : ∃ R : List Value, Hid (row .u8 x = R) := ⟨_, rfl⟩
            have hiY : (Tryz.prog.info? 67).map (·.size) = some Y.length := by rw [← HY.out, row_len, HXW.out.1]; exact size67
            have RR : Hid (wr.rangeAt bb (off + i * 20) Y) := hid (by
              obtain ⟨b', off', e1, _, e3⟩ := (HPQ.out wr HS.out.bl).at_ (by rw [HM.out]; omega)
              cases e1
              have := e3 i hil
              rw [HX.out, HY.out] at this
              exact this)
            obtain ⟨Z, HZ⟩ : ∃ Z : ByteArray, Hid (⟨(hxS x).toArray⟩ = Z) := ⟨_, hid rfl⟩
            obtain ⟨T, HT⟩ : ∃ Z : ByteArray, Hid (⟨(hWord ++ hxS x).toArray⟩ = Z) := ⟨_, hid rfl⟩
            have hcat : (⟨#[104, 97, 118, 101, 32]⟩ : ByteArray) ++ Z = T := by rw [← HZ.out, ← HT.out]; exact str_app hWord (hxS x)
            have hzs : Z.size = 40 := by rw [← HZ.out, txt_len]; exact hxS_len x HXW.out
            have CH := hid (C34.out wr x Y Z HY HZ HXW.out)
            have hwl : (hWord ++ hxS x).length = 45 := by rw [List.length_append, hxS_len x HXW.out]; rfl
            have CT : Hid (∀ X, Calls Tryz.prog 33 #[.string T] X (PostLi (tx (hWord ++ hxS x)) X)) := hid (fun X => C33.out X _ T HT (fun e => by rw [e] at hwl; simp at hwl) (by omega))
            have hpl : (pkt (tx (hWord ++ hxS x))).length ≤ 60 := by rw [pkt_len]; have := tx_len (hWord ++ hxS x); omega
            have HPLN := hid hpl
            have HTK : Hid (pktL ((idT hWord (H.take (i + 1))).map tx) = pktL ((idT hWord (H.take i)).map tx) ++ pkt (tx (hWord ++ hxS x))) := hid (idT_snoc hWord H i x hil HX.out)
            clear hil hwl hpl
            go_wp2_with (first
              | (refine wpList_load_mid rfl 67 _ rfl bb (off + i * 20) rfl Y _ RR.out Tryz.underlying67 rfl hiY ?_)
              | fail)
            refine CH.out.mono ?_
            rintro e w4 ⟨rfl, hb4⟩
            have HS4 := hid (HS.out.below hb4)
            clear hb4
            go_wp2_with fail
            refine (CT.out w4).mono ?_
            rintro e w5 ⟨hb5, g, c, rfl, hg, hp⟩
            obtain ⟨K, HK⟩ : ∃ n, Hid ((pkt (tx (hWord ++ hxS x))).length = n) := ⟨_, rfl⟩
            obtain ⟨v6, w6, hr6, hs6⟩ := (HS4.out.below hb5).sl g 0 c (pkt (tx (hWord ++ hxS x))) hp (by have := HSL.out; have := HPLN.out; omega) 25
            rw [HK.out] at hr6
            rw [HK.out]
            have HS6 : Hid (Wst G w w6 v6 (S1 ++ pktL ((idT hWord (H.take (i + 1))).map tx))) := hid (by
              rw [HTK.out]
              rw [← List.append_assoc]; exact hs6)
            clear hb5 hg hp hs6
            go_wp2_with (first | (at_builtin; refine wpList_app rfl _ _ 25 25 rfl 25 rfl _ _ rfl rfl hr6 ?_) | fail)
            go_roundg (m - (i + 1))
            case measure => omega
            case rel => exact ⟨i + 1, by omega, rfl, by go_num, HS6⟩
          · have hlti : ¬ (i : Int) < (m : Int) := by omega
            have hdone : H.take i = H := List.take_of_length_le (by rw [HM.out]; omega)
            have hsd := HS.out
            have hsl := HSL.out
            rw [hdone] at hsd hsl
            have CD : Hid (Calls Tryz.prog 33 #[.string ⟨#[100, 111, 110, 101]⟩] wr (PostLi (tx dWord) wr)) := hid (C33.out wr dWord _ (hid rfl) (by decide) (by decide))
            have HSD := hid hsd
            have HSLL := hid hsl
            clear HS hsd hsl hdone
            go_wp2_with fail
            refine CD.out.mono ?_
            rintro e w5 ⟨hb5, g, c, rfl, hg, hp⟩
            obtain ⟨K, HK⟩ : ∃ n, Hid ((pkt (tx dWord)).length = n) := ⟨_, rfl⟩
            have hk9 : (pkt (tx dWord)).length = 9 := rfl
            obtain ⟨v6, w6, hr6, hs6⟩ := (HSD.out.below hb5).sl g 0 c (pkt (tx dWord)) hp (by have := HSLL.out; omega) 25
            rw [HK.out] at hr6
            rw [HK.out]
            have HF : Hid (Wst G w w6 v6 (wB W H)) := hid (by
              rw [wB_parts, HS1.out]
              exact hs6)
            clear hb5 hg hp hs6 hk9
            go_wp2_with (first | (at_builtin; refine wpList_app rfl _ _ 25 25 rfl 25 rfl _ _ rfl rfl hr6 ?_) | fail)
            refine bodyPost_ret (results_tmp2 Tryz.results15 _ _ _) rfl ?_
            exact ⟨HF.out.bl, .inl ⟨HNW.out, HNH.out, _, rfl, HF.out.own⟩⟩
end Go.Proofs.YtijeogdnjeamaaaGreatDoor
