/- The document's 'ReadWant'. -/
import Derived.Test.YtijeogdnjeamaaaGreatDoorWgC
namespace Go.Proofs.YtijeogdnjeamaaaGreatDoor
open Go.RowKit
set_option linter.unusedVariables false
set_option linter.unusedSimpArgs false
def PostPd (s : Str) (w : World) (e : Ending) (w' : World) : Prop :=
  Below w.heap.size w w' ∧ ((∃ x, prs s = some x ∧ e = .returned (.tuple #[idV x, .bool true])) ∨ (prs s = none ∧ e = .returned (.tuple #[idV z20, .bool false])))
theorem parseD (s : Str) (hl : s.length ≤ 300000) (w : World) : Calls Tryz.prog 70 #[.string ⟨s.toArray⟩] w (PostPd s w) := by
  refine (Hx.parse_ref ⟨s.toArray⟩ w (by rw [txt_len]; exact hl)).mono ?_
  rintro e w' ⟨hb, h1, h2⟩
  refine ⟨hb, ?_⟩
  by_cases h : (⟨s.toArray⟩ : ByteArray).size = 40 ∧ Hx.good ⟨s.toArray⟩
  · exact .inl ⟨_, prs_yes h, h1 h⟩
  · exact .inr ⟨prs_not h, h2 h⟩
theorem own_id {W : World} {B : Nat} {v : Value} {l : List (List Int)} (h : W.ownsRow B 67 20 v l.length (l.flatMap (row .u8))) (hle : B ≤ W.heap.size) (hn : l.length ≤ 20000) (x : List Int) (hx : IdW x) (ty : TypeId) :
    ∃ v' W', (Builtin.append_ #[43, 43] ty #[v, .slice (some ⟨W.heap.size, 0, none⟩) 1 1]).run Tryz.prog (W.alloc (.cells (row .u8 x).toArray 67)) = .ok v' W' ∧ W'.ownsRow B 67 20 v' (l ++ [x]).length ((l ++ [x]).flatMap (row .u8)) ∧ (W.alloc (.cells (row .u8 x).toArray 67)).grownBy W' v.ownBlock ∧ (v'.ownBlock = v.ownBlock ∨ v'.ownBlock = some (W.heap.size + 1)) := by
  obtain ⟨i, hi, hz0, hz1, hz2⟩ := info_parts Tryz.info67
  have h' := own_keep h (World.grownBy_alloc W (.cells (row .u8 x).toArray 67) none) (fun j e => by cases e)
  obtain ⟨v', W', hr, h1, h2, _, h3⟩ := run_append_own_at (P := Tryz.prog) (W.alloc (.cells (row .u8 x).toArray 67)) B 43 ty 67 i _ 20 20 Tryz.underlying43 hi hz0 hz1 hz2 rfl (by decide) v _ _ h' ⟨W.heap.size, 0, none⟩ 1 1 (row .u8 x) (by rw [row_len, hx.1]) (fun j u hj => by
    rw [addr_add]
    exact range_row (heap_alloc_new W (.cells (row .u8 x).toArray 67)) j u hj) (row_oneC x) (by unfold maxLen; omega) (by omega) (by rw [size_alloc]; omega)
  refine ⟨v', W', hr, ?_, h2, ?_⟩
  · rw [List.length_append, List.flatMap_append]
    simpa using h1
  · rwa [size_alloc] at h3
/-- Two rows of ids of one's own. -/
structure Two (w0 W : World) (G : Nat) (v1 v2 : Value) (A B : List (List Int)) : Prop where
  a : Bi 67 w0 W G v1 A
  b : Bi 67 w0 W G v2 B
  ne : ∀ k, v1.ownBlock = some k → v2.ownBlock ≠ some k
theorem Two.below {w0 W W' : World} {G : Nat} {v1 v2 : Value} {A B : List (List Int)} (h : Two w0 W G v1 v2 A B) (hb : Below W.heap.size W W') : Two w0 W' G v1 v2 A B := ⟨h.a.carry hb, h.b.carry hb, h.ne⟩
theorem Two.one {w0 W : World} {G : Nat} {v1 v2 : Value} {A B : List (List Int)} (h : Two w0 W G v1 v2 A B) (hn : A.length ≤ 20000) (x : List Int) (hx : IdW x) (ty : TypeId) :
    ∃ v' W', (Builtin.append_ #[43, 43] ty #[v1, .slice (some ⟨W.heap.size, 0, none⟩) 1 1]).run Tryz.prog (W.alloc (.cells (row .u8 x).toArray 67)) = .ok v' W' ∧ Two w0 W' G v' v2 (A ++ [x]) B ∧ (W.alloc (.cells (row .u8 x).toArray 67)).grownBy W' v1.ownBlock := by
  obtain ⟨v', W', hr, ho, hg, hv⟩ := own_id h.a.own h.a.le hn x hx ty
  have h1 := h.below ((Below.refl _ W).alloc (Nat.le_refl _) (.cells (row .u8 x).toArray 67))
  have hk : ∀ k, v1.ownBlock = some k → G ≤ k := fun k e => (own_lt h.a.own k e).1
  have hb := h1.a.below.grown hg h1.a.le hk
  refine ⟨v', W', hr, ⟨⟨hb, ho, Nat.le_trans h1.a.le hg.size⟩, ⟨hb, ?_, Nat.le_trans h1.a.le hg.size⟩, ?_⟩, hg⟩
  · refine h1.b.own.kept hg ?_
    cases e : v2.ownBlock with
    | none => exact .inl rfl
    | some k => exact .inr (fun e2 => h.ne k e2.symm e)
  · intro k hk2 hk3
    rcases hv with e | e
    · exact h.ne k (by rw [← e]; exact hk2) hk3
    · rw [e] at hk2
      have := (own_lt h.b.own k hk3).2
      cases hk2
      omega
theorem Two.swap {w0 W : World} {G : Nat} {v1 v2 : Value} {A B : List (List Int)} (h : Two w0 W G v1 v2 A B) : Two w0 W G v2 v1 B A := ⟨h.b, h.a, fun k h1 h2 => h.ne k h2 h1⟩
theorem Tryz.results41 : Tryz.f41.results = #[.tmp 2, .tmp 3, .tmp 4] := by kernel_rfl
def PostRD (s : Str) (w : World) (G : Nat) (e : Ending) (w' : World) : Prop :=
  Below G w w' ∧ ((∃ W H v1 v2, Wok s W H ∧ e = .returned (.tuple #[v1, v2, .int .i64 0]) ∧ Bi 67 w w' G v1 W ∧ Bi 67 w w' G v2 H) ∨ ((¬ ∃ W H, Wok s W H) ∧ (∃ ls, okL ls ∧ s = pktL ls) ∧ e = .returned (.tuple #[.slice none 0 0, .slice none 0 0, .int .i64 111])) ∨ ((¬ ∃ ls, okL ls ∧ s = pktL ls) ∧ e = .returned (.tuple #[.slice none 0 0, .slice none 0 0, .int .i64 110])))
theorem zero67 (w : World) : (zeroValue 67).run Tryz.prog w = .ok (.agg (row .u8 z20).toArray) w := by kernel_rfl
theorem fm_snoc (p : Str) (ls : List Str) (i : Nat) (x : Str) (h : i < ls.length) (hx : ls.getD i [] = x) : (ls.take (i + 1)).flatMap (lnW p) = (ls.take i).flatMap (lnW p) ++ lnW p x := by
  rw [take_snocG [] ls i h, hx, List.flatMap_append]
  simp
theorem tot_take (ts : List Str) : ∀ k, tot (ts.take k) ≤ tot ts := by
  intro k
  induction ts generalizing k with
  | nil => simp [tot]
  | cons t ts ih =>
    cases k with
    | zero => simp [tot]
    | succ k => rw [List.take_succ_cons, tot_cons, tot_cons]; have := ih k; omega
theorem two_of (l : List Str) (h : l.length = 2) : ∃ p q, l = [p, q] := by
  match l, h with
  | [p, q], _ => exact ⟨p, q, rfl⟩
set_option maxRecDepth 20000 in
set_option maxHeartbeats 4000000 in
theorem refReadWant_any {w : World} (a : Option Addr) (cap : Nat) (s : Str) (hP : PB w a cap s) (hl : s.length ≤ 8000) :
    Calls Tryz.prog 41 #[.slice a s.length cap] w (PostRD s w w.heap.size) := by
  obtain ⟨G, HG⟩ : ∃ n, Hid (w.heap.size = n) := ⟨_, rfl⟩
  obtain ⟨m, HM⟩ : ∃ n, Hid (s.length = n) := ⟨_, rfl⟩
  have C68 : Hid (Calls Tryz.prog 68 #[.slice a m cap] w (PostLd s w)) := hid (by
    rw [← HM.out]
    exact refLines_any a cap s hP (by omega))
  have HPB : Hid (∀ (aa : Option Addr) (cc : Nat) (r : Str), PB w aa cc r → ∀ W, Below G w W → PB W aa cc r) := hid (fun aa cc r h W hW => h.below (by rw [HG.out]; exact hW))
  have HPS := hid hP
  have HL8 := hid hl
  have HGS : Hid (∀ X, Below G w X → G ≤ X.heap.size) := hid (fun X hX => by have := hX.size; have := HG.out; omega)
  obtain ⟨zr, HZR⟩ : ∃ z : Array Value, Hid (z = (row .u8 z20).toArray) := ⟨_, hid rfl⟩
  have hz67 : ∀ w : World, (zeroValue 67).run Tryz.prog w = .ok (.agg zr) w := fun w => by rw [HZR.out]; exact zero67 w
  rw [HM.out, HG.out]
  clear hP hl
  go_enter Tryz.func41, Tryz.ntmps41
  go_wp2_with fail
  refine C68.out.mono ?_
  rintro e w1 ⟨hb1, ⟨ls, hok, hs, v, ts, rfl, hbt, hat, hts⟩ | ⟨hno, rfl⟩⟩
  · obtain ⟨lb, lc, rfl, hpt, _⟩ := hbt.px (d := dT) (fun _ _ => rfl)
    obtain ⟨k, HK⟩ : ∃ n, Hid (ts.length = n) := ⟨_, rfl⟩
    have hkl : ls.length = k := by rw [← hts, List.length_map]; exact HK.out
    have HKL := hid hkl
    have hk2 : k ≤ 2000 := by
      have h1 := pktL_cnt ls
      rw [← hs, hkl] at h1
      have := HL8.out
      omega
    have HOK := hid hok
    have HSS := hid hs
    have HTOT : Hid (tot ls ≤ 8000) := hid (by
      have h1 := tot_pktL ls
      rw [← hs] at h1
      have := HL8.out
      omega)
    have HB1 : Hid (Below G w w1) := hid (by rw [← HG.out]; exact hb1)
    have HPT : Hid (∀ W, Below w1.heap.size w1 W → PT W lb lc ts) := hid (fun W hW => hpt.below hW)
    have HFA : Hid (0 < k → ∃ bb off, lb = some ⟨bb, off, none⟩) := hid (fun h => by
      obtain ⟨b, off, e1, _⟩ := hpt.at_ (by rw [HK.out]; exact h)
      exact ⟨b, off, e1⟩)
    have HAT : Hid (∀ i, i < k → PB w (ts.getD i dT).1 (ts.getD i dT).2.1 (ts.getD i dT).2.2 ∧ (ts.getD i dT).2.2 = ls.getD i []) := hid (fun i hi => by
      refine ⟨hat _ (getD_mem ts i dT (by rw [HK.out]; exact hi)), ?_⟩
      rw [← hts, List.getD_eq_getElem?_getD, List.getD_eq_getElem?_getD, List.getElem?_map, List.getElem?_eq_getElem (by rw [HK.out]; exact hi)]
      rfl)
    obtain ⟨B1, HBB⟩ : ∃ n, Hid (w1.heap.size = n) := ⟨_, rfl⟩
    have HGB : Hid (G ≤ B1) := hid (by rw [← HBB.out]; exact HGS.out w1 HB1.out)
    have S0 : Hid (Two w1 w1 B1 (.slice none 0 0) (.slice none 0 0) ((ls.take 0).flatMap (lnW wWord4)) ((ls.take 0).flatMap (lnW hWord4))) := hid ⟨bx_nil 67 w1 B1 (by rw [HBB.out]; exact Nat.le_refl _), bx_nil 67 w1 B1 (by rw [HBB.out]; exact Nat.le_refl _), fun k e => by cases e⟩
    rw [HK.out]
    clear hb1 hok hs hbt hat hts hpt hkl
    go_wp2_with fail
    go_loopg [7, 8, 9] k (fun gg wv hv iv wr => ∃ i : Nat, i ≤ k ∧ gg = k - i ∧ iv = .int .i64 i ∧ Hid (Two w1 wr B1 wv hv ((ls.take i).flatMap (lnW wWord4)) ((ls.take i).flatMap (lnW hWord4))))
    case atStart => exact ⟨0, Nat.zero_le _, rfl, rfl, S0⟩
    case round =>
      obtain ⟨i, hi, hkk, rfl, HT⟩ := hrel
      by_cases hlt : i < k
      · have hlti : (i : Int) < (k : Int) := by omega
        obtain ⟨bb, off, rfl⟩ := HFA.out (by omega)
        have hil : i < ls.length := by rw [HKL.out]; exact hlt
        obtain ⟨x, HX⟩ : ∃ x, Hid (ls.getD i [] = x) := ⟨_, rfl⟩
        obtain ⟨hpx, hxe⟩ := HAT.out i hlt
        rw [HX.out] at hxe
        rw [hxe] at hpx
        obtain ⟨ta, HTA⟩ : ∃ y, Hid ((ts.getD i dT).1 = y) := ⟨_, rfl⟩
        obtain ⟨tc, HTC⟩ : ∃ y, Hid ((ts.getD i dT).2.1 = y) := ⟨_, rfl⟩
        rw [HTA.out, HTC.out] at hpx
        obtain ⟨q, HQ⟩ : ∃ n, Hid (x.length = n) := ⟨_, rfl⟩
        have HBW : Hid (Below w1.heap.size w1 wr) := hid (by rw [HBB.out]; exact HT.out.a.below)
        have HGW : Hid (Below G w wr) := hid (HB1.out.trans (HBW.out.mono (HGS.out w1 HB1.out)))
        have kc : wr.cell? ⟨bb, off + i, none⟩ = some (.slice ta q tc) := by
          obtain ⟨b', off', e1, _, e3⟩ := (HPT.out wr HBW.out).at_ (by rw [HK.out]; omega)
          cases e1
          have := e3 i (by rw [HK.out]; exact hlt) 0 _ rfl
          rw [show off + i * 1 + 0 = off + i by omega, hxe, HTA.out, HTC.out, HQ.out] at this
          exact this
        have hxl : x.length ≤ 1000 := by rw [← HX.out]; exact HOK.out _ (getD_mem ls i [] hil)
        have HXL := hid hxl
        have CW : Hid (Calls Tryz.prog 69 #[.slice ta q tc] wr fun e w' => ∃ v, e = .returned v ∧ BS wr w' wr.heap.size v (wdsA [] x)) := hid (by
          rw [← HQ.out]
          exact words_any ta tc x (HPB.out _ _ _ hpx wr HGW.out) hxl)
        have HTW : Hid ((ls.take (i + 1)).flatMap (lnW wWord4) = (ls.take i).flatMap (lnW wWord4) ++ lnW wWord4 x) := hid (fm_snoc _ ls i x hil HX.out)
        have HTH : Hid ((ls.take (i + 1)).flatMap (lnW hWord4) = (ls.take i).flatMap (lnW hWord4) ++ lnW hWord4 x) := hid (fm_snoc _ ls i x hil HX.out)
        have HCW : Hid (((ls.take i).flatMap (lnW wWord4)).length ≤ 20000) := hid (by have := lnL_cnt wWord4 (ls.take i); have := tot_take ls i; have := HTOT.out; omega)
        have HCH : Hid (((ls.take i).flatMap (lnW hWord4)).length ≤ 20000) := hid (by have := lnL_cnt hWord4 (ls.take i); have := tot_take ls i; have := HTOT.out; omega)
        clear hil hpx hxe hxl
        go_wp2_with fail
        refine CW.out.mono ?_
        rintro e w2 ⟨v2, rfl, hbs⟩
        obtain ⟨wa, wc, rfl, hps, hpl, hpo⟩ := hbs.px (d := []) (encS_len _)
        have HT2 : Hid (Two w1 w2 B1 u7 u8 ((ls.take i).flatMap (lnW wWord4)) ((ls.take i).flatMap (lnW hWord4))) := hid (HT.out.below hbs.below)
        obtain ⟨n2, HN2⟩ : ∃ n, Hid ((wdsA [] x).length = n) := ⟨_, rfl⟩
        rw [HN2.out]
        by_cases h2 : n2 = 2
        · obtain ⟨p, q2, hpq⟩ := two_of _ (HN2.out.trans h2)
          rw [hpq] at hps
          have hl2 : q2.length ≤ 1000 := by
            have := wds_len x [] q2 (by rw [hpq]; simp)
            have := HXL.out
            simp at *
            omega
          obtain ⟨wb, rfl⟩ : ∃ b, wa = some ⟨b, 0, none⟩ := by
            rcases hpo with h | h
            · obtain ⟨b, off', e1, _⟩ := hps.at_ (by simp)
              rw [h] at e1
              cases e1
            · exact h
          obtain ⟨P0, HP0⟩ : ∃ X : ByteArray, Hid (⟨p.toArray⟩ = X) := ⟨_, hid rfl⟩
          obtain ⟨P1, HP1⟩ : ∃ X : ByteArray, Hid (⟨q2.toArray⟩ = X) := ⟨_, hid rfl⟩
          have k0 : w2.cell? ⟨wb, 0, none⟩ = some (.string P0) := by
            obtain ⟨b', off', e1, _, e3⟩ := hps.at_ (by simp)
            cases e1
            have := e3 0 (by simp) 0 _ rfl
            simpa [sV, HP0.out] using this
          have k1 : w2.cell? ⟨wb, 1, none⟩ = some (.string P1) := by
            obtain ⟨b', off', e1, _, e3⟩ := hps.at_ (by simp)
            cases e1
            have := e3 1 (by simp) 0 _ rfl
            simpa [sV, HP1.out] using this
          have K0 : Hid (∀ W, w2.grownBy W none → W.cell? ⟨wb, 0, none⟩ = some (.string P0)) := hid (fun W hW => hW.cell k0 (by simp))
          have HWB : Hid (wr.heap.size ≤ wb) := hid (hpl _ rfl).1
          have CP : Hid (Calls Tryz.prog 70 #[.string P1] w2 (PostPd q2 w2)) := hid (by
            rw [← HP1.out]
            exact parseD q2 (by omega) w2)
          have HLW : Hid (∀ r : Str, lnW r x = if p = r then (prs q2).toList else []) := hid (fun r => lnW_two hpq)
          have HBS2 := hid hbs.below
          rw [h2]
          clear hbs hps hpl hpo hpq hl2 kc
          go_wp2_with fail
          refine CP.out.mono ?_
          rintro e w3 ⟨hb3, ⟨y, hy, rfl⟩ | ⟨hy, rfl⟩⟩
          · have HYW : Hid (IdW y) := hid (prs_wf hy).1
            obtain ⟨Y, HY⟩ : ∃ R : List Value, Hid (row .u8 y = R) := ⟨_, rfl⟩
            have HYL : Hid (Y.length = 20) := hid (by rw [← HY.out, row_len]; exact HYW.out.1)
            have hiY : (Tryz.prog.info? 67).map (·.size) = some Y.length := by rw [HYL.out]; exact size67
            obtain ⟨P, HPP⟩ : ∃ P, Hid (w3.heap.size = P) := ⟨_, rfl⟩
            obtain ⟨w4, hw4, ht4, hb4, hr4⟩ := id_new w3 67 zr HZR.out Y HYL.out
            obtain ⟨wz, HWZ⟩ : ∃ W, Hid (w3.alloc (.cells zr 67) = W) := ⟨_, rfl⟩
            rw [HWZ.out, HPP.out] at hw4 ht4
            rw [HPP.out] at hr4
            have HW4 := hid hw4
            have T1 := hid ht4
            have R4 := hid hr4
            have T2 : Hid ((Tryz.prog.info? 67).map (·.size) = some Y.toArray.size) := hid (by rw [List.size_toArray]; exact hiY)
            have T3 : Hid (Y.toArray.all (·.oneCell') = true) := hid (by rw [← HY.out]; exact all_oneCell_toArray (row_oneC _))
            have HT4 : Hid (Two w1 w4 B1 u7 u8 ((ls.take i).flatMap (lnW wWord4)) ((ls.take i).flatMap (lnW hWord4))) := hid ((HT2.out.below hb3).below hb4)
            have hg24 : w2.grownBy w4 none := (grown_of_below hb3 none).trans (grown_of_below hb4 none)
            have k4 := K0.out w4 hg24
            have HG24 := hid hg24
            have HPY : Hid (prs q2 = some y) := hid hy
            have al1 : w3.alloc (.cells zr 67) = wz := HWZ.out
            have hsP : w3.heap.size = P := HPP.out
            obtain ⟨K7, HK7⟩ : ∃ K, Hid (w4.heap.size = K) := ⟨_, rfl⟩
            obtain ⟨wq, HWQ⟩ : ∃ W, Hid (w4.alloc (.cells Y.toArray 67) = W) := ⟨_, rfl⟩
            have HBLD : Hid ((Instr.buildSlice 43 1 #[(0, .agg Y.toArray)]).run Tryz.prog w4 = .ok (.slice (some ⟨K7, 0, none⟩) 1 1) wq) := hid (by rw [← HK7.out, ← HY.out, ← HWQ.out, ← HY.out]; exact run_b43 y HYW.out.1 w4)
            unfold idV
            rw [HY.out]
            by_cases hpw : p = wWord4
            · obtain ⟨v8, w8, hr8, ht8, hg8⟩ := HT4.out.one HCW.out y HYW.out 43
              rw [HY.out, HWQ.out, HK7.out] at hr8
              rw [HY.out, HWQ.out] at hg8
              have hP0 : P0 = ⟨#[119, 97, 110, 116]⟩ := by rw [← HP0.out, hpw]; rfl
              have k8 : w8.cell? ⟨wb, 0, none⟩ = some (.string ⟨#[119, 97, 110, 116]⟩) := by
                rw [← hP0]
                have h1 : wq.cell? ⟨wb, 0, none⟩ = some (.string P0) := K0.out wq (HG24.out.trans (by rw [← HWQ.out]; exact World.grownBy_alloc _ _ _))
                refine hg8.cell h1 (fun e => ?_)
                have h3 := (own_lt HT.out.a.own wb e.symm).2
                have h4 := HWB.out
                omega
              rw [hP0] at k4
              have HT8 : Hid (Two w1 w8 B1 v8 u8 ((ls.take (i + 1)).flatMap (lnW wWord4)) ((ls.take (i + 1)).flatMap (lnW hWord4))) := hid (by
                rw [HTW.out, HTH.out, HLW.out, HLW.out, if_pos hpw, if_neg (by rw [hpw]; decide), HPY.out, List.append_nil]
                exact ht8)
              clear hw4 ht4 hb4 hr4 hb3 hy hg24 ht8 hg8 k0 k1 hpw hP0
              go_wp2_with (first
                | (refine wpList_load_mid rfl 67 _ rfl P 0 rfl Y _ R4.out Tryz.underlying67 rfl hiY ?_)
                | (refine wpList_store_mid rfl 67 _ _ rfl P 0 Y.toArray rfl rfl T1.out T2.out T3.out ?_; rw [HW4.out])
                | refine wpList_bS rfl 43 1 _ rfl (.agg Y.toArray) _ rfl HBLD.out ?_
                | (at_builtin; refine wpList_app rfl _ _ 43 43 rfl 43 rfl _ _ rfl rfl hr8 ?_)
                | fail)
              go_roundg (k - (i + 1))
              case measure => omega
              case rel => exact ⟨i + 1, by omega, rfl, by go_num, HT8⟩
            · have hpwb : (P0.toList == [119, 97, 110, 116]) = false := by
                rw [← HP0.out]
                simp
                exact hpw
              by_cases hph : p = hWord4
              · obtain ⟨v8, w8, hr8, ht8, hg8⟩ := HT4.out.swap.one HCH.out y HYW.out 43
                rw [HY.out, HWQ.out, HK7.out] at hr8
                have hP0 : P0 = ⟨#[104, 97, 118, 101]⟩ := by rw [← HP0.out, hph]; rfl
                rw [hP0] at k4
                have HT8 : Hid (Two w1 w8 B1 u7 v8 ((ls.take (i + 1)).flatMap (lnW wWord4)) ((ls.take (i + 1)).flatMap (lnW hWord4))) := hid (by
                  rw [HTW.out, HTH.out, HLW.out, HLW.out, if_neg hpw, if_pos hph, HPY.out, List.append_nil]
                  exact ht8.swap)
                clear hw4 ht4 hb4 hr4 hb3 hy hg24 ht8 hg8 k0 k1 hpw hP0 hpwb hph
                go_wp2_with (first
                  | (refine wpList_load_mid rfl 67 _ rfl P 0 rfl Y _ R4.out Tryz.underlying67 rfl hiY ?_)
                  | (refine wpList_store_mid rfl 67 _ _ rfl P 0 Y.toArray rfl rfl T1.out T2.out T3.out ?_; rw [HW4.out])
                  | refine wpList_bS rfl 43 1 _ rfl (.agg Y.toArray) _ rfl HBLD.out ?_
                  | (at_builtin; refine wpList_app rfl _ _ 43 43 rfl 43 rfl _ _ rfl rfl hr8 ?_)
                  | fail)
                go_roundg (k - (i + 1))
                case measure => omega
                case rel => exact ⟨i + 1, by omega, rfl, by go_num, HT8⟩
              · have hphb : (P0.toList == [104, 97, 118, 101]) = false := by
                  rw [← HP0.out]
                  simp
                  exact hph
                have HT8 : Hid (Two w1 w4 B1 u7 u8 ((ls.take (i + 1)).flatMap (lnW wWord4)) ((ls.take (i + 1)).flatMap (lnW hWord4))) := hid (by
                  rw [HTW.out, HTH.out, HLW.out, HLW.out, if_neg hpw, if_neg hph, List.append_nil, List.append_nil]
                  exact HT4.out)
                clear hw4 ht4 hb4 hr4 hb3 hy hg24 k0 k1 hpw hph
                go_wp2_with (first
                  | (refine wpList_store_mid rfl 67 _ _ rfl P 0 Y.toArray rfl rfl T1.out T2.out T3.out ?_; rw [HW4.out])
                  | fail)
                go_roundg (k - (i + 1))
                case measure => omega
                case rel => exact ⟨i + 1, by omega, rfl, by go_num, HT8⟩
          · obtain ⟨Y, HY⟩ : ∃ R : List Value, Hid (row .u8 z20 = R) := ⟨_, rfl⟩
            have HYL : Hid (Y.length = 20) := hid (by rw [← HY.out, row_len]; rfl)
            have hiY : (Tryz.prog.info? 67).map (·.size) = some Y.length := by rw [HYL.out]; exact size67
            obtain ⟨P, HPP⟩ : ∃ P, Hid (w3.heap.size = P) := ⟨_, rfl⟩
            obtain ⟨w4, hw4, ht4, hb4, hr4⟩ := id_new w3 67 zr HZR.out Y HYL.out
            obtain ⟨wz, HWZ⟩ : ∃ W, Hid (w3.alloc (.cells zr 67) = W) := ⟨_, rfl⟩
            rw [HWZ.out, HPP.out] at hw4 ht4
            have HW4 := hid hw4
            have T1 := hid ht4
            have T2 : Hid ((Tryz.prog.info? 67).map (·.size) = some Y.toArray.size) := hid (by rw [List.size_toArray]; exact hiY)
            have T3 : Hid (Y.toArray.all (·.oneCell') = true) := hid (by rw [← HY.out]; exact all_oneCell_toArray (row_oneC _))
            have HT8 : Hid (Two w1 w4 B1 u7 u8 ((ls.take (i + 1)).flatMap (lnW wWord4)) ((ls.take (i + 1)).flatMap (lnW hWord4))) := hid (by
              have e : ∀ r : Str, lnW r x = [] := fun r => by rw [HLW.out, hy]; simp
              rw [HTW.out, HTH.out, e, e, List.append_nil, List.append_nil]
              exact (HT2.out.below hb3).below hb4)
            have al1 : w3.alloc (.cells zr 67) = wz := HWZ.out
            have hsP : w3.heap.size = P := HPP.out
            unfold idV
            rw [HY.out]
            clear hw4 ht4 hb4 hr4 hb3 hy k0 k1
            go_wp2_with (first
              | (refine wpList_store_mid rfl 67 _ _ rfl P 0 Y.toArray rfl rfl T1.out T2.out T3.out ?_; rw [HW4.out])
              | fail)
            go_roundg (k - (i + 1))
            case measure => omega
            case rel => exact ⟨i + 1, by omega, rfl, by go_num, HT8⟩
        · have h2i : ((n2 : Int) == 2) = false := by simp; omega
          have h2j : ¬ (n2 : Int) = 2 := by omega
          have HT8 : Hid (Two w1 w2 B1 u7 u8 ((ls.take (i + 1)).flatMap (lnW wWord4)) ((ls.take (i + 1)).flatMap (lnW hWord4))) := hid (by
            rw [HTW.out, HTH.out, lnW_not (by rw [HN2.out]; exact h2), lnW_not (by rw [HN2.out]; exact h2), List.append_nil, List.append_nil]
            exact HT2.out)
          clear hbs hps hpl hpo
          go_wp2
          go_roundg (k - (i + 1))
          case measure => omega
          case rel => exact ⟨i + 1, by omega, rfl, by go_num, HT8⟩
      · have hlti : ¬ (i : Int) < (k : Int) := by omega
        have hdone : ls.take i = ls := List.take_of_length_le (by rw [HKL.out]; omega)
        have ht := HT.out
        rw [hdone] at ht
        obtain ⟨W, HWW⟩ : ∃ l, Hid (ls.flatMap (lnW wWord4) = l) := ⟨_, rfl⟩
        obtain ⟨H, HHH⟩ : ∃ l, Hid (ls.flatMap (lnW hWord4) = l) := ⟨_, rfl⟩
        have hcw : W.length ≤ 400 := by rw [← HWW.out]; have := lnL_cnt wWord4 ls; have := HTOT.out; omega
        have hch : H.length ≤ 400 := by rw [← HHH.out]; have := lnL_cnt hWord4 ls; have := HTOT.out; omega
        have hIW : IdL W := by rw [← HWW.out]; exact lnL_wf _ _
        have hIH : IdL H := by rw [← HHH.out]; exact lnL_wf _ _
        rw [HWW.out, HHH.out] at ht
        obtain ⟨a1, c1, hu7, hp1, _⟩ := ht.a.px (d := []) (idw_row hIW)
        obtain ⟨a2, c2, hu8, hp2, _⟩ := ht.b.px (d := []) (idw_row hIH)
        obtain ⟨n1, HN1⟩ : ∃ n, Hid (W.length = n) := ⟨_, rfl⟩
        obtain ⟨n2, HN2⟩ : ∃ n, Hid (H.length = n) := ⟨_, rfl⟩
        rw [HN1.out] at hu7
        rw [HN2.out] at hu8
        subst hu7 hu8
        have HGW : Hid (Below G w wr) := hid (HB1.out.trans (ht.a.below.mono HGB.out))
        have CC : Hid (Calls Tryz.prog 15 #[.slice a1 n1 c1, .slice a2 n2 c2] wr (PostWD W H wr wr.heap.size)) := hid (by
          rw [← HN1.out, ← HN2.out]
          exact refWriteWant_any a1 c1 W hp1 hIW hcw a2 c2 H hp2 hIH hch)
        have HWK : Hid (∀ W2 H2, Wok s W2 H2 → W2 = W ∧ H2 = H) := hid (fun W2 H2 h => by
          obtain ⟨e1, e2⟩ := wB_docW HOK.out h.iw h.ih (by rw [← HSS.out]; exact h.b)
          rw [← HWW.out, ← HHH.out, e1, e2]
          exact ⟨rfl, rfl⟩)
        have HLS : Hid (∃ ls, okL ls ∧ s = pktL ls) := hid ⟨ls, HOK.out, HSS.out⟩
        have HTT := hid ht
        have HIW := hid hIW
        have HIH := hid hIH
        clear ht hdone HT hp1 hp2 hcw hch hIW hIH
        go_wp2_with fail
        refine CC.out.mono ?_
        rintro e w6 ⟨hb6, ⟨h1, h2, v, rfl, ho⟩ | ⟨h1, rfl⟩⟩
        · obtain ⟨a6, c6, rfl, hp6, _⟩ := own_pb ho
          obtain ⟨S, HSB⟩ : ∃ S, Hid (wB W H = S) := ⟨_, rfl⟩
          rw [HSB.out] at hp6
          rw [HSB.out]
          obtain ⟨q, HQ⟩ : ∃ n, Hid (S.length = n) := ⟨_, rfl⟩
          have hgw6 : Below G w w6 := HGW.out.trans (hb6.mono (HGS.out wr HGW.out))
          obtain ⟨X1, HX1⟩ : ∃ X : ByteArray, Hid (⟨S.toArray⟩ = X) := ⟨_, hid rfl⟩
          obtain ⟨X2, HX2⟩ : ∃ X : ByteArray, Hid (⟨s.toArray⟩ = X) := ⟨_, hid rfl⟩
          have hcv1 : (convert 25 9 (.slice a6 q c6)).run Tryz.prog w6 = .ok (.string X1) w6 := by
            have := conv_str hp6
            rw [HQ.out, sV_out, HX1.out] at this
            exact this
          have hcv2 : (convert 25 9 (.slice a m cap)).run Tryz.prog w6 = .ok (.string X2) w6 := by
            have := conv_str (HPB.out _ _ _ HPS.out w6 hgw6)
            rw [HM.out, sV_out, HX2.out] at this
            exact this
          have F := hid (HTT.out.below hb6)
          have H1 := hid h1
          have H2 := hid h2
          have HF6 := hid hgw6
          rw [HQ.out]
          clear h1 h2 ho hp6 hb6 hgw6
          by_cases hSs : S = s
          · have HGD : Hid (Wok s W H) := hid ⟨H1.out, H2.out, HIW.out, HIH.out, by rw [HSB.out]; exact hSs.symm⟩
            have hxx : X1 = X2 := by rw [← HX1.out, ← HX2.out, hSs]
            subst hxx
            have F1 : Hid (Bi 67 w w6 G (.slice a1 n1 c1) W) := hid ⟨HF6.out, base_mono F.out.a.own HGB.out, Nat.le_trans HGB.out F.out.a.le⟩
            have F2 : Hid (Bi 67 w w6 G (.slice a2 n2 c2) H) := hid ⟨HF6.out, base_mono F.out.b.own HGB.out, Nat.le_trans HGB.out F.out.b.le⟩
            clear hSs
            go_wp2
            refine bodyPost_ret (results_tmp3 Tryz.results41 _ _) rfl ?_
            exact ⟨HF6.out, .inl ⟨W, H, _, _, HGD.out, rfl, F1.out, F2.out⟩⟩
          · have HGD : Hid (¬ ∃ W H, Wok s W H) := hid (fun ⟨W2, H2, h⟩ => by
              obtain ⟨e1, e2⟩ := HWK.out W2 H2 h
              subst e1 e2
              exact hSs (by rw [← HSB.out]; exact h.b.symm))
            have hxx : (X1.toList == X2.toList) = false := by
              rw [← HX1.out, ← HX2.out]
              simp
              exact hSs
            have hxn : (X1.toList != X2.toList) = true := by rw [bne, hxx]; rfl
            clear hSs
            go_wp2
            refine bodyPost_ret (results_tmp3 Tryz.results41 _ _) rfl ?_
            exact ⟨HF6.out, .inr (.inl ⟨HGD.out, HLS.out, rfl⟩)⟩
        · have HF6 : Hid (Below G w w6) := hid (HGW.out.trans (hb6.mono (HGS.out wr HGW.out)))
          have HGD : Hid (¬ ∃ W H, Wok s W H) := hid (fun ⟨W2, H2, h⟩ => by
            obtain ⟨e1, e2⟩ := HWK.out W2 H2 h
            subst e1 e2
            exact h1 ⟨h.w, h.h⟩)
          clear h1 hb6
          go_wp2
          refine bodyPost_ret (results_tmp3 Tryz.results41 _ _) rfl ?_
          exact ⟨HF6.out, .inr (.inl ⟨HGD.out, HLS.out, rfl⟩)⟩
  · have HNO := hid hno
    have HB1 : Hid (Below G w w1) := hid (by rw [← HG.out]; exact hb1)
    clear hno hb1
    go_wp2
    refine bodyPost_ret (results_tmp3 Tryz.results41 _ _) rfl ?_
    exact ⟨HB1.out, .inr (.inr ⟨HNO.out, rfl⟩)⟩
end Go.Proofs.YtijeogdnjeamaaaGreatDoor
