import Derived.Test.YtijeogdnjeamaaaGreatDoorQo15
namespace Go.Proofs.YtijeogdnjeamaaaGreatDoor
open Go.RowKit
set_option linter.unusedVariables false
set_option linter.unusedSimpArgs false
structure Q12 (g wb P : Nat) (X : ByteArray) (O : List Value) (v : Value) (W : World) : Prop where
  c0 : W.cell? ⟨wb, 1, none⟩ = some (.string X)
  r1 : W.rangeAt P 0 O
  sz : True
theorem step_app30 {w w0 : World} {ops : Array Oper} {o : Oper} {a : Act} {KK : Act → World → Prop} {Q : Exit → Act → World → Prop} {E : Prop} (hg : o.guard = none) (s x : Operand) (ho : o.op = .call { callee := .builtin .append, args := #[s, x], argTypes := #[30, 30] }) (B : Nat) (v : Value) (l : List Rf) (hs : a.eval s = v) (h : BRd w0 w B v l)
    (ax : Option Addr) (cx : Nat) (m : List Rf) (hx : a.eval x = .slice ax m.length cx) (hP : PRd w ax cx m) (hw : IdR m) (hl : l.length + m.length ≤ 30000) (hK : ∀ v' w', BRd w0 w' B v' (l ++ m) → w.grownBy w' v.ownBlock → KK (a.put o.dst v') w') :
    if Region.wanted o (yielded ops a.tmps) = true then Oper.wp Tryz.prog o a w KK Q else E := by
  obtain ⟨v', w', hr, hb, hg'⟩ := exec_bx_sl (enc := encR2) (k := 22) (d := rf0) s x 30 76 Tryz.underlying30 info76 rfl (by decide) (by decide) encR2_one ho B v l hs h ax cx m hx hP (encR2_ln hw) hl
  exact step_exec hg v' hr (hK v' w' hb hg')
theorem run_b32z (w : World) : (Instr.build 32 #[]).run Tryz.prog w = .ok (.agg #[.string ⟨#[]⟩, .slice none 0 0]) w := by kernel_rfl
theorem pb_ne {W : World} {a : Option Addr} {cap B : Nat} {s : Str} {ty : TypeId} {X : ByteArray} (h : PB W a cap s) (hb : Bx2 W B ty (.string X) (.slice none 0 0)) (h0 : 0 < s.length) : ∀ p : Addr, a = some p → p.block ≠ B := by
  intro p hp e
  obtain ⟨b, off, e1, _, e3⟩ := h.at_ h0
  rw [hp] at e1
  cases e1
  simp only at e
  subst e
  have h1 := e3 0 h0 0 _ rfl
  rw [cell_of_row _ _ _ _ _ _ hb] at h1
  match hq : off + 0 * 1 + 0 with
  | 0 => rw [hq] at h1; cases h1
  | 1 => rw [hq] at h1; cases h1
  | n + 2 => rw [hq] at h1; simp at h1
set_option maxRecDepth 20000 in
set_option maxHeartbeats 8000000 in
theorem refReadOffer_any {w : World} (a : Option Addr) (cap : Nat) (s : Str) (hP : PB w a cap s) (hl : s.length ≤ 8000) :
    Calls Tryz.prog 37 #[.slice a s.length cap] w (PostRDo s w w.heap.size) := by
  obtain ⟨G, HG⟩ : ∃ n, Hid (w.heap.size = n) := ⟨_, rfl⟩
  obtain ⟨m, HM⟩ : ∃ n, Hid (s.length = n) := ⟨_, rfl⟩
  obtain ⟨w1, HW1⟩ : ∃ u, Hid (w.alloc (.cells #[.string ⟨#[]⟩, .slice none 0 0] 32) = u) := ⟨_, rfl⟩
  have hs1 : w1.heap.size = G + 1 := by rw [← HW1.out, ← HG.out]; exact size_alloc _ _
  obtain ⟨w2, HW2⟩ : ∃ u, Hid (w1.alloc (.cells #[.string ⟨#[]⟩, .slice none 0 0] 32) = u) := ⟨_, rfl⟩
  have hs2 : w2.heap.size = G + 1 + 1 := by rw [← HW2.out, ← hs1]; exact size_alloc _ _
  have hb1 : Below G w w1 := by rw [← HW1.out, ← HG.out]; exact (Below.refl _ w).alloc (Nat.le_refl _) _
  have hb12 : Below w1.heap.size w1 w2 := by rw [← HW2.out]; exact (Below.refl _ w1).alloc (Nat.le_refl _) _
  have hb2 : Below G w w2 := hb1.trans (hb12.mono (by omega))
  have hx0 : Bx2 w2 G 32 (.string ⟨#[]⟩) (.slice none 0 0) := by
    have : Bx2 w1 G 32 (.string ⟨#[]⟩) (.slice none 0 0) := by rw [← HW1.out, ← HG.out]; exact Bx2.new _ _ _ _
    exact this.below hb12
  have hx1 : Bx2 w2 (G + 1) 32 (.string ⟨#[]⟩) (.slice none 0 0) := by rw [← HW2.out, ← hs1]; exact Bx2.new _ _ _ _
  have S2 : Hid (So w w2 G [] (.slice none 0 0) []) := hid ⟨hb2, hx0, hx1, ⟨rfl, .inl ⟨rfl, rfl⟩⟩, by omega⟩
  have HPB : Hid (∀ (aa : Option Addr) (cc : Nat) (r : Str), PB w2 aa cc r → ∀ W, Below w2.heap.size w2 W → PB W aa cc r) := hid (fun aa cc r h W hW => h.below hW)
  have hP2 : PB w2 a cap s := hP.below (by rw [HG.out]; exact hb2)
  have HPS : Hid (∀ W, Below G w W → PB W a cap s) := hid (fun W hW => hP.below (by rw [HG.out]; exact hW))
  have C68 : Hid (Calls Tryz.prog 68 #[.slice a m cap] w2 (PostLd s w2)) := hid (by
    rw [← HM.out]
    exact refLines_any a cap s hP2 (by omega))
  have HL8 := hid hl
  obtain ⟨d, hd1, hd2⟩ := und32
  have HD1 := hid hd1
  have HD2 := hid hd2
  have HFIN : Hid (∀ (X : World) (H : Str) (v x y : Value) (l : List Rf), So w X G H v l → ∃ X', X.setCells G 0 (#[x, y] : Array Value).toList = X' ∧ X.there G 0 (#[x, y] : Array Value).size ∧ Below G w X' ∧ X'.rangeAt G 0 [x, y] ∧ X.grownBy X' (some G)) := hid (fun X H v x y l hS => by
    obtain ⟨X', e1, e2, e3, e4⟩ := hS.b0.put x y
    exact ⟨X', e1, e2, hS.bl.grown e3 (by have := hS.le; omega) (fun k e => by cases e; omega), e4, e3⟩)
  have TZ2 : Hid ((Tryz.prog.info? 32).map (·.size) = some (#[.string ⟨#[]⟩, .slice none 0 0] : Array Value).size) := hid size32
  have TZ3 : Hid ((#[.string ⟨#[]⟩, .slice none 0 0] : Array Value).all (·.oneCell') = true) := hid (by simp [Value.oneCell'])
  obtain ⟨z2, HZ2⟩ : ∃ z : Array Value, Hid (z = (row .u8 z20).toArray) := ⟨_, hid rfl⟩
  have hz2s : z2.size = 20 := by rw [HZ2.out]; rfl
  have hz67 : ∀ w : World, (zeroValue 67).run Tryz.prog w = .ok (.agg z2) w := fun w => by rw [HZ2.out]; exact zero67 w
  have al1 : w.alloc (.cells #[.string ⟨#[]⟩, .slice none 0 0] 32) = w1 := HW1.out
  have al2 : w1.alloc (.cells #[.string ⟨#[]⟩, .slice none 0 0] 32) = w2 := HW2.out
  have hs0 : w.heap.size = G := HG.out
  rw [HM.out, HG.out]
  have HSW : Hid (w2.heap.size = G + 1 + 1) := hid hs2
  clear hP hP2 hl hb1 hb12 hb2 hx0 hx1 hs2 hd1 hd2
  go_enter Tryz.func37, Tryz.ntmps37
  go_wp2_with fail
  clear al1 al2 hs0
  refine C68.out.mono ?_
  rintro e w3 ⟨hb3, ⟨ls, hok, hs, v, ts, rfl, hbt, hat, hts⟩ | ⟨hno, rfl⟩⟩
  · obtain ⟨lb, lc, rfl, hpt, hpl3, _⟩ := hbt.px (d := dT) (fun _ _ => rfl)
    obtain ⟨k, HK⟩ : ∃ n, Hid (ts.length = n) := ⟨_, rfl⟩
    have hkl : ls.length = k := by rw [← hts, List.length_map]; exact HK.out
    have HKL := hid hkl
    have hk2 : k ≤ 2000 := by
      have h1 := pktL_cnt ls
      rw [← hs, hkl] at h1
      have := HL8.out
      omega
    have HOK := hid hok
    have HSS := hid hs
    have HB3 := hid hb3
    have S3 : Hid (So w w3 G (dcO (ls.take 0)).1 (.slice none 0 0) (dcO (ls.take 0)).2) := hid (S2.out.below hb3)
    have HX1 : Hid (Bx2 w2 (G + 1) 32 (.string ⟨#[]⟩) (.slice none 0 0)) := hid S2.out.b1
    have HPT : Hid (∀ W, w3.grownBy W (some (G + 1)) → PT W lb lc ts) := hid (fun W hW => Px.grown hpt (fun p hp e => by have := (hpl3 p hp).1; rw [HSW.out] at this; omega) hW)
    have HFA : Hid (0 < k → ∃ bb off, lb = some ⟨bb, off, none⟩) := hid (fun h => by
      obtain ⟨b, off, e1, _⟩ := hpt.at_ (by rw [HK.out]; exact h)
      exact ⟨b, off, e1⟩)
    have HAT : Hid (∀ i, i < k → (∀ W, w3.grownBy W (some (G + 1)) → PB W (ts.getD i dT).1 (ts.getD i dT).2.1 (ts.getD i dT).2.2) ∧ (ts.getD i dT).2.2 = ls.getD i []) := hid (fun i hi => by
      have hq := hat _ (getD_mem ts i dT (by rw [HK.out]; exact hi))
      refine ⟨fun W hW => ?_, ?_⟩
      · by_cases h0 : 0 < (ts.getD i dT).2.2.length
        · exact Px.grown (hq.below HB3.out) (pb_ne hq HX1.out h0) hW
        · exact ⟨hq.capl, fun h => absurd h h0, hq.nil⟩
      · rw [← hts, List.getD_eq_getElem?_getD, List.getD_eq_getElem?_getD, List.getElem?_map, List.getElem?_eq_getElem (by rw [HK.out]; exact hi)]
        rfl)
    rw [HK.out]
    clear hb3 hok hs hbt hat hts hpt hkl
    go_wp2_with fail
    go_loopg [7] k (fun gg kv wr => ∃ (i : Nat) (v : Value), i ≤ k ∧ gg = k - i ∧ kv = .int .i64 i ∧ Hid (So w wr G (dcO (ls.take i)).1 v (dcO (ls.take i)).2) ∧ Hid (w3.grownBy wr (some (G + 1)) ∧ wr.ownsRow w3.heap.size 76 22 v (dcO (ls.take i)).2.length ((dcO (ls.take i)).2.flatMap encR2)))
    case atStart => exact ⟨0, .slice none 0 0, Nat.zero_le _, rfl, rfl, S3, hid ⟨World.grownBy.refl _ _, ⟨rfl, .inl ⟨rfl, rfl⟩⟩⟩⟩
    case round =>
      obtain ⟨i, v, hi, hkk, rfl, HS, HGR⟩ := hrel
      by_cases hlt : i < k
      · have hlti : (i : Int) < (k : Int) := by omega
        obtain ⟨bb, off, rfl⟩ := HFA.out (by omega)
        have hil : i < ls.length := by rw [HKL.out]; exact hlt
        obtain ⟨x, HX⟩ : ∃ x, Hid (ls.getD i [] = x) := ⟨_, rfl⟩
        obtain ⟨hpx, hxe⟩ := HAT.out i hlt
        rw [HX.out] at hxe
        rw [hxe] at hpx
        obtain ⟨ta, HTA⟩ : ∃ y, Hid ((ts.getD i dT).1 = y) := ⟨_, rfl⟩
        obtain ⟨tc, HTC⟩ : ∃ y, Hid ((ts.getD i dT).2.1 = y) := ⟨_, rfl⟩
        rw [HTA.out, HTC.out] at hpx
        obtain ⟨q, HQ⟩ : ∃ n, Hid (x.length = n) := ⟨_, rfl⟩
        have kc : wr.cell? ⟨bb, off + i, none⟩ = some (.slice ta q tc) := by
          obtain ⟨b', off', e1, _, e3⟩ := (HPT.out wr HGR.out.1).at_ (by rw [HK.out]; omega)
          cases e1
          have := e3 i (by rw [HK.out]; exact hlt) 0 _ rfl
          rw [show off + i * 1 + 0 = off + i by omega, hxe, HTA.out, HTC.out, HQ.out] at this
          exact this
        have hxl : x.length ≤ 1000 := by rw [← HX.out]; exact HOK.out _ (getD_mem ls i [] hil)
        have HXL := hid hxl
        have CW : Hid (Calls Tryz.prog 69 #[.slice ta q tc] wr fun e w' => ∃ v, e = .returned v ∧ BS wr w' wr.heap.size v (wdsA [] x)) := hid (by
          rw [← HQ.out]
          exact words_any ta tc x (hpx wr HGR.out.1) hxl)
        obtain ⟨o, HOO⟩ : ∃ o, Hid (dcO (ls.take i) = o) := ⟨_, rfl⟩
        have HDW : Hid (o.1.length ≤ 1000 ∧ ∀ y ∈ o.2, IdW y.2 ∧ y.1.length ≤ 1000) := hid (by rw [← HOO.out]; exact dcO_wf ls HOK.out i)
        have HDN : Hid (o.2.length ≤ i) := hid (by rw [← HOO.out]; exact dcO_cnt ls i)
        have HTW : Hid (dcO (ls.take (i + 1)) = stO o x) := hid (by rw [dcO_snoc ls i x hil HX.out, HOO.out])
        rw [HOO.out] at HS HGR
        clear hil hpx hxe hxl
        go_wp2_with fail
        refine CW.out.mono ?_
        rintro e w4 ⟨v2, rfl, hbs⟩
        obtain ⟨wa, wc, rfl, hps, hpl, hpo⟩ := hbs.px (d := []) (encS_len _)
        have HS4 : Hid (So w w4 G o.1 v o.2) := hid (HS.out.below hbs.below)
        have HO4 : Hid (w4.ownsRow w3.heap.size 76 22 v o.2.length (o.2.flatMap encR2)) := hid (own_keep HGR.out.2 (grown_of_below hbs.below none) (fun j e => by cases e))
        have HW3G : Hid (G + 1 < w3.heap.size) := hid (by have := S3.out.le; omega)
        have HG4 : Hid (w3.grownBy w4 (some (G + 1))) := hid (HGR.out.1.trans ((grown_of_below hbs.below none).but _))
        obtain ⟨n2, HN2⟩ : ∃ n, Hid ((wdsA [] x).length = n) := ⟨_, rfl⟩
        rw [HN2.out]
        by_cases h2 : n2 = 2
        · obtain ⟨p, q2, hpq⟩ := two_of _ (HN2.out.trans h2)
          rw [hpq] at hps
          have hlp : p.length ≤ 1000 := by
            have := wds_len x [] p (by rw [hpq]; simp)
            have := HXL.out
            simp at *
            omega
          obtain ⟨wb, rfl⟩ : ∃ b, wa = some ⟨b, 0, none⟩ := by
            rcases hpo with h | h
            · obtain ⟨b, off', e1, _⟩ := hps.at_ (by simp)
              rw [h] at e1
              cases e1
            · exact h
          obtain ⟨P0, HP0⟩ : ∃ X : ByteArray, Hid (⟨p.toArray⟩ = X) := ⟨_, hid rfl⟩
          obtain ⟨P1, HP1⟩ : ∃ X : ByteArray, Hid (⟨q2.toArray⟩ = X) := ⟨_, hid rfl⟩
          have k0 : w4.cell? ⟨wb, 0, none⟩ = some (.string P0) := by
            obtain ⟨b', off', e1, _, e3⟩ := hps.at_ (by simp)
            cases e1
            have := e3 0 (by simp) 0 _ rfl
            simpa [sV, HP0.out] using this
          have k1 : w4.cell? ⟨wb, 1, none⟩ = some (.string P1) := by
            obtain ⟨b', off', e1, _, e3⟩ := hps.at_ (by simp)
            cases e1
            have := e3 1 (by simp) 0 _ rfl
            simpa [sV, HP1.out] using this
          have HK0 := hid k0
          have HK1 := hid k1
          have HWB : Hid (w3.heap.size ≤ wb) := hid (by have h1 : wr.heap.size ≤ wb := (hpl _ rfl).1; have := HGR.out.1.size; omega)
          have HWB2 : Hid (wr.heap.size ≤ wb) := hid (hpl _ rfl).1
          have HW24 : Hid (wr.heap.size ≤ w4.heap.size) := hid hbs.below.size
          have HWQ : Hid (wdsA [] x = [p, q2]) := hid hpq
          have CP : Hid (Calls Tryz.prog 70 #[.string P0] w4 (PostPd p w4)) := hid (by rw [← HP0.out]; exact parseD p (by omega) w4)
          rw [h2]
          clear hbs hps hpl hpo hpq hlp kc h2 k1
          go_wp2_with fail
          refine CP.out.mono ?_
          rintro e w5 ⟨hb5, ho⟩
          have HB5 := hid hb5
          have hid1 : ∃ (x : List Int) (ev : Bool), IdW x ∧ e = .returned (.tuple #[idV x, .bool ev]) ∧ ((prs p = some x ∧ ev = true) ∨ (prs p = none ∧ ev = false)) := by
            rcases ho with ⟨x, hx, rfl⟩ | ⟨hx, rfl⟩
            · exact ⟨x, _, (prs_wf hx).1, rfl, .inl ⟨hx, rfl⟩⟩
            · exact ⟨z20, _, zch_wf.1, rfl, .inr ⟨hx, rfl⟩⟩
          clear ho hb5
          obtain ⟨x1, ev1, hw1, rfl, hev1⟩ := hid1
          obtain ⟨Y, HY⟩ : ∃ R : List Value, Hid (row .u8 x1 = R) := ⟨_, rfl⟩
          have HYL : Hid (Y.length = 20) := hid (by rw [← HY.out, row_len, hw1.1])
          have hiY : (Tryz.prog.info? 67).map (·.size) = some Y.length := by rw [HYL.out]; exact size67
          obtain ⟨P, HPP⟩ : ∃ P, Hid (w5.heap.size = P) := ⟨_, rfl⟩
          obtain ⟨w6, hw6, ht6, hb6, hr6⟩ := st_new w5 67 z2 Y (by rw [HYL.out, hz2s])
          obtain ⟨wv, HWV⟩ : ∃ W, Hid (w5.alloc (.cells z2 67) = W) := ⟨_, rfl⟩
          rw [HWV.out, HPP.out] at hw6 ht6
          rw [HPP.out] at hr6
          have HW6 := hid hw6
          have T1 := hid ht6
          have T2 : Hid ((Tryz.prog.info? 67).map (·.size) = some Y.toArray.size) := hid (by rw [List.size_toArray]; exact hiY)
          have T3 : Hid (Y.toArray.all (·.oneCell') = true) := hid (by rw [← HY.out]; exact all_oneCell_toArray (row_oneC _))
          have R6 := hid hr6
          have HB46 : Hid (Below w4.heap.size w4 w6) := hid (HB5.out.trans (hb6.mono HB5.out.size))
          have HS6 : Hid (So w w6 G o.1 v o.2) := hid (HS4.out.below HB46.out)
          have HO6 : Hid (w6.ownsRow w3.heap.size 76 22 v o.2.length (o.2.flatMap encR2)) := hid (own_keep HO4.out (grown_of_below HB46.out none) (fun j e => by cases e))
          have HG6 : Hid (w3.grownBy w6 (some (G + 1))) := hid (HG4.out.trans ((grown_of_below HB46.out none).but _))
          have k60 : w6.cell? ⟨wb, 0, none⟩ = some (.string P0) := (HB46.out.cell (p := ⟨wb, 0, none⟩) (cell_lt HK0.out)).trans HK0.out
          have k61 : w6.cell? ⟨wb, 1, none⟩ = some (.string P1) := (HB46.out.cell (p := ⟨wb, 1, none⟩) (cell_lt HK1.out)).trans HK1.out
          have al2 : w5.alloc (.cells z2 67) = wv := HWV.out
          have hs2 : w5.heap.size = P := HPP.out
          have HXW := hid hw1
          unfold idV
          rw [HY.out]
          clear hw6 ht6 hb6 hr6 hw1 k0
          rcases hev1 with ⟨hp1, rfl⟩ | ⟨hp1, rfl⟩
          · have HST := hid (stO_id (o := o) HWQ.out hp1)
            have HDB : Hid (Below w6.heap.size w6 w6.drew) := hid ⟨rfl, rfl, rfl, Nat.le_refl _, fun _ _ => rfl⟩
            have HSd : Hid (So w w6.drew G o.1 v o.2) := hid (HS6.out.below HDB.out)
            have HQW : Hid (∀ W, Below w6.heap.size w6 W → Q12 (G + 1) wb P P1 Y v W) := hid (fun W hW => ⟨(hW.cell (p := ⟨wb, 1, none⟩) (cell_lt k61)).trans k61, fun j u hv => (hW.cell (p := ⟨P, 0 + j, none⟩) (cell_lt (R6.out j u hv))).trans (R6.out j u hv), trivial⟩)
            have HOJ : Hid (∀ j, v.ownBlock = some j → j < wr.heap.size ∧ G + 2 ≤ j) := hid (fun j e => ⟨(own_lt HS.out.own j e).2, (own_lt HS.out.own j e).1⟩)
            have HQG : Hid (∀ W W', Below w6.heap.size w6 W → W.grownBy W' v.ownBlock → Q12 (G + 1) wb P P1 Y v W') := hid (fun W W' hW hg => by
              have h := HQW.out W hW
              have h1 := HWB2.out
              have h2 : wr.heap.size ≤ P := by rw [← HPP.out]; have := HB5.out.size; have := HW24.out; omega
              exact ⟨hg.cell h.c0 (fun e => by have := (HOJ.out wb e.symm).1; omega), fun j u hv => hg.cell (h.r1 j u hv) (fun e => by have := (HOJ.out P e.symm).1; omega), trivial⟩)
            obtain ⟨V, HV⟩ : ∃ R : List Value, Hid (encR2 (q2, x1) = R) := ⟨_, rfl⟩
            have hbd : ∀ W : World, (Instr.build 76 #[(0, .string P1), (1, .agg Y.toArray)]).run Tryz.prog W = .ok (.agg V.toArray) W := fun W => by
              rw [← HV.out, ← HP1.out, ← HY.out]
              exact run_b76 q2 x1 HXW.out.1 W
            clear hp1 k60
            go_wp2_with (first
              | (refine wpList_store_mid rfl 67 _ _ rfl P 0 Y.toArray rfl rfl T1.out T2.out T3.out ?_; rw [HW6.out])
              | fail)
            clear al2 hs2
            refine wp_region_held_drew (S := Q12 (G + 1) wb P P1 Y v) (by kernel_rfl) (HQW.out _ HDB.out) (fun hHeld => ?_)
            generalize w6.drew = u0 at hHeld HSd HDB ⊢
            refine takeL (i := 0) (v := ?_) rfl (by kernel_rfl) (by kernel_rfl) (by kernel_rfl) (fun _ _ _ h => h) (Or.inl ⟨by rfl, ?_⟩) hHeld ?_
            rotate_left
            · rintro w' ⟨c0, r1, sz⟩; go_simp; rfl
            try simp only [Act.put, List.setIfInBounds_toArray, List.set_cons_zero, List.set_cons_succ]
            refine takeL (i := 2) (v := ?_) rfl (by kernel_rfl) (by kernel_rfl) (by kernel_rfl) (fun _ _ _ h => h) (Or.inl ⟨by rfl, ?_⟩) hHeld ?_
            rotate_left
            · rintro w' ⟨c0, r1, sz⟩; go_simp; rfl
            try simp only [Act.put, List.setIfInBounds_toArray, List.set_cons_zero, List.set_cons_succ]
            refine takeL (i := 3) (v := ?_) rfl (by kernel_rfl) (by kernel_rfl) (by kernel_rfl) (fun _ _ _ h => h) (Or.inl ⟨by rfl, ?_⟩) hHeld ?_
            rotate_left
            · rintro w' ⟨c0, r1, sz⟩; go_simp; rfl
            try simp only [Act.put, List.setIfInBounds_toArray, List.set_cons_zero, List.set_cons_succ]
            refine takeL (i := 4) (v := ?_) rfl (by kernel_rfl) (by kernel_rfl) (by kernel_rfl) (fun _ _ _ h => h) (Or.inl ⟨by rfl, ?_⟩) hHeld ?_
            rotate_left
            · rintro w' ⟨c0, r1, sz⟩; go_simp; rfl
            try simp only [Act.put, List.setIfInBounds_toArray, List.set_cons_zero, List.set_cons_succ]
            refine takeL (i := 5) (v := .agg Y.toArray) rfl (by kernel_rfl) (by kernel_rfl) (by kernel_rfl) (fun _ _ _ h => h) (yieldsIf_load_mid (by kernel_rfl) 67 _ rfl P (0) (by rfl) Y _ (fun w' h => h.r1) Tryz.underlying67 rfl hiY) hHeld ?_
            try simp only [Act.put, List.setIfInBounds_toArray, List.set_cons_zero, List.set_cons_succ]
            refine takeL (i := 6) (v := .agg V.toArray) rfl (by kernel_rfl) (by kernel_rfl) (by kernel_rfl) (fun _ _ _ h => h) (Or.inl ⟨by rfl, ?_⟩) hHeld ?_
            · rintro w' ⟨c0, r1, sz⟩; exact exec_bd2 76 (.tmp 47) (.tmp 48) (by rfl) _ _ _ (by rfl) (by rfl) (hbd w')
            try simp only [Act.put, List.setIfInBounds_toArray, List.set_cons_zero, List.set_cons_succ]
            obtain ⟨u1, HU1⟩ : ∃ u, Hid (u0.alloc (.cells V.toArray 76) = u) := ⟨_, rfl⟩
            obtain ⟨K, HKK⟩ : ∃ u, Hid (u0.heap.size = u) := ⟨_, rfl⟩
            have HB01 : Hid (Below u0.heap.size u0 u1) := hid (by rw [← HU1.out]; exact (Below.refl _ _).alloc (Nat.le_refl _) _)
            have HB7 : Hid (Below w6.heap.size w6 u1) := hid (HDB.out.trans (HB01.out.mono HDB.out.size))
            have HS1 : Hid (So w u1 G o.1 v o.2) := hid (HSd.out.below HB01.out)
            have HP8 : Hid (PRd u1 (some ⟨K, 0, none⟩) 1 [(q2, x1)]) := hid (by
              rw [← HU1.out, ← HKK.out, ← HV.out]
              exact prd_one u0 (q2, x1) 76)
            have HI8 : Hid (IdR [(q2, x1)]) := hid (fun y hy => by rw [List.mem_singleton.1 hy]; exact HXW.out)
            have hbs : (Instr.buildSlice 30 1 #[(0, .agg V.toArray)]).run Tryz.prog u0 = .ok (.slice (some ⟨K, 0, none⟩) 1 1) u1 := by
              rw [← HU1.out, ← HKK.out, ← HV.out]
              exact run_b30 (q2, x1) HXW.out u0
            have HO1 : Hid (u1.ownsRow w3.heap.size 76 22 v o.2.length (o.2.flatMap encR2)) := hid (own_keep HO6.out (grown_of_below HB7.out none) (fun j e => by cases e))
            have HL1 : Hid (w3.heap.size ≤ u1.heap.size) := hid (by have := HG6.out.size; have := HB7.out.size; omega)
            have c40 : u0.cell? ⟨G + 1, 1, none⟩ = some v := HSd.out.b1.c1
            have c41 : u1.cell? ⟨G + 1, 1, none⟩ = some v := HS1.out.b1.c1
            refine wpAnyH_ready (rs := [1, 7]) (by kernel_rfl) (by simp) ?_
            refine consL rfl (fun KK hKK => ?_) (consL rfl (fun KK hKK => ?_) AllReadyH.nil)
            · refine step_exec (by rfl) v (w' := u0) (by go_simp; try rfl) ?_
              refine hKK.out _ _ (HQW.out _ HDB.out) (fun _ => ?_)
              clear hKK KK
              try simp only [Act.put, List.setIfInBounds_toArray, List.set_cons_zero, List.set_cons_succ]
              refine wpAnyH_ready (rs := [7]) (by kernel_rfl) (by simp) ?_
              refine consL rfl (fun KK hKK => ?_) AllReadyH.nil
              refine step_exec (by rfl) (.slice (some ⟨K, 0, none⟩) 1 1) (w' := u1) (exec_bS1 30 1 (.tmp 49) (by rfl) _ _ (by rfl) hbs) ?_
              refine hKK.out _ _ (HQW.out _ HB7.out) (fun _ => ?_)
              clear hKK KK hbs
              try simp only [Act.put, List.setIfInBounds_toArray, List.set_cons_zero, List.set_cons_succ]
              refine wpAnyH_ready (rs := [8]) (by kernel_rfl) (by simp) ?_
              refine consL rfl (fun KK hKK => ?_) AllReadyH.nil
              refine step_app30 (w0 := u1) (by rfl) (.tmp 44) (.tmp 50) (by rfl) w3.heap.size v o.2 (by rfl) ⟨Below.refl _ _, HO1.out, HL1.out⟩ (some ⟨K, 0, none⟩) 1 [(q2, x1)] (by rfl) HP8.out HI8.out (by have := HDN.out; simp only [List.length_cons, List.length_nil]; omega) ?_
              intro v9 u9 hb9 hg9
              obtain ⟨ax9, cx9, rfl, _⟩ := hb9.px (d := rf0) (encR2_ln (fun y hy => by
                  rcases List.mem_append.1 hy with hy | hy
                  · exact (HDW.out.2 y hy).1
                  · exact HI8.out y hy))
              obtain ⟨n9, HN9⟩ : ∃ n, Hid ((o.2 ++ [(q2, x1)]).length = n) := ⟨_, rfl⟩
              rw [HN9.out] at hb9
              rw [HN9.out]
              obtain ⟨hs9, hbx9⟩ := HS1.out.refs (v' := .slice ax9 n9 cx9) (l' := o.2 ++ [(q2, x1)]) hg9 (base_mono hb9.own (by have := HW3G.out; omega))
              have hHeld2 : Q12 (G + 1) wb P P1 Y v u9 := HQG.out u1 u9 HB7.out hg9
              have ho9 : (Value.slice ax9 n9 cx9).oneCell' = true := rfl
              obtain ⟨u10, HU10⟩ : ∃ u, Hid (u9.setCell ⟨G + 1, 1, none⟩ (.slice ax9 n9 cx9) = u) := ⟨_, rfl⟩
              have hst9 := hbx9.st1 (.slice ax9 n9 cx9) ho9
              have hc9 := hbx9.c1
              have hf9 := hbx9.f1
              rw [HU10.out] at hst9
              have HS10 : Hid (So w u10 G (dcO (ls.take (i + 1))).1 (.slice ax9 n9 cx9) (dcO (ls.take (i + 1))).2) := hid (by
                rw [HTW.out, HST.out, ← HU10.out]
                exact hs9)
              have hg910 : u9.grownBy u10 (some (G + 1)) := by rw [← HU10.out]; exact grown_set1 _ _ _ _
              have hHeld3 : Q12 (G + 1) wb P P1 Y v u10 := by
                have h1 := HWB2.out
                have h2 : wr.heap.size ≤ P := by rw [← HPP.out]; have := HB5.out.size; have := HW24.out; omega
                have h3 := HS.out.le
                exact ⟨hg910.cell hHeld2.c0 (fun e => by injection e with e; simp only at e; omega), fun j u hv => hg910.cell (hHeld2.r1 j u hv) (fun e => by injection e with e; simp only at e; omega), trivial⟩
              have HG10 : Hid (w3.grownBy u10 (some (G + 1)) ∧ u10.ownsRow w3.heap.size 76 22 (.slice ax9 n9 cx9) (dcO (ls.take (i + 1))).2.length ((dcO (ls.take (i + 1))).2.flatMap encR2)) := hid ⟨by
                  have h1 : w3.grownBy u1 (some (G + 1)) := HG6.out.trans ((grown_of_below HB7.out none).but _)
                  have h2 : w3.grownBy u9 (some (G + 1)) := ⟨hg9.os.trans h1.os, hg9.tape.trans h1.tape, hg9.output.trans h1.output, Nat.le_trans h1.size hg9.size, fun kk hk hne => (hg9.block kk (Nat.lt_of_lt_of_le hk h1.size) (fun e => by have := (own_lt HO1.out kk e.symm).1; omega)).trans (h1.block kk hk hne)⟩
                  exact h2.trans hg910, by
                  rw [HTW.out, HST.out]
                  exact own_keep hb9.own hg910 (fun j e => by cases e; exact HW3G.out)⟩
              clear hb9 hs9 hbx9 hg9 hg910
              refine hKK.out _ _ hHeld2 (fun _ => ?_)
              clear hKK KK hHeld
              try simp only [Act.put, List.setIfInBounds_toArray, List.set_cons_zero, List.set_cons_succ]
              refine takeL (i := 9) (v := ?_) rfl (by kernel_rfl) (by kernel_rfl) (by kernel_rfl) (fun _ _ _ h => h) (Or.inl ⟨by rfl, ?_⟩) hHeld2 ?_
              rotate_left
              · rintro w' ⟨c0, r1, sz⟩; go_simp; rfl
              try simp only [Act.put, List.setIfInBounds_toArray, List.set_cons_zero, List.set_cons_succ]
              refine wpAnyH_ready (rs := [10]) (by kernel_rfl) (by simp) ?_
              refine consL rfl (fun KK hKK => ?_) AllReadyH.nil
              refine step_skip (by rfl) (w' := u10) (by go_simp; exact HU10.out) ?_
              refine hKK.out _ _ hHeld3 (fun _ => ?_)
              clear hKK KK hHeld2
              try simp only [Act.put, List.setIfInBounds_toArray, List.set_cons_zero, List.set_cons_succ]
              refine wpAnyH_done (by kernel_rfl) ?_ _
              clear hHeld3
              go_wp2
              go_roundg (k - (i + 1))
              case measure => omega
              case rel => exact ⟨i + 1, .slice ax9 n9 cx9, by omega, rfl, by go_num, HS10, HG10⟩
            · refine step_exec (by rfl) (.slice (some ⟨K, 0, none⟩) 1 1) (w' := u1) (exec_bS1 30 1 (.tmp 49) (by rfl) _ _ (by rfl) hbs) ?_
              refine hKK.out _ _ (HQW.out _ HB7.out) (fun _ => ?_)
              clear hKK KK hbs
              try simp only [Act.put, List.setIfInBounds_toArray, List.set_cons_zero, List.set_cons_succ]
              refine wpAnyH_ready (rs := [1]) (by kernel_rfl) (by simp) ?_
              refine consL rfl (fun KK hKK => ?_) AllReadyH.nil
              refine step_exec (by rfl) v (w' := u1) (by go_simp; try rfl) ?_
              refine hKK.out _ _ (HQW.out _ HB7.out) (fun _ => ?_)
              clear hKK KK
              try simp only [Act.put, List.setIfInBounds_toArray, List.set_cons_zero, List.set_cons_succ]
              refine wpAnyH_ready (rs := [8]) (by kernel_rfl) (by simp) ?_
              refine consL rfl (fun KK hKK => ?_) AllReadyH.nil
              refine step_app30 (w0 := u1) (by rfl) (.tmp 44) (.tmp 50) (by rfl) w3.heap.size v o.2 (by rfl) ⟨Below.refl _ _, HO1.out, HL1.out⟩ (some ⟨K, 0, none⟩) 1 [(q2, x1)] (by rfl) HP8.out HI8.out (by have := HDN.out; simp only [List.length_cons, List.length_nil]; omega) ?_
              intro v9 u9 hb9 hg9
              obtain ⟨ax9, cx9, rfl, _⟩ := hb9.px (d := rf0) (encR2_ln (fun y hy => by
                  rcases List.mem_append.1 hy with hy | hy
                  · exact (HDW.out.2 y hy).1
                  · exact HI8.out y hy))
              obtain ⟨n9, HN9⟩ : ∃ n, Hid ((o.2 ++ [(q2, x1)]).length = n) := ⟨_, rfl⟩
              rw [HN9.out] at hb9
              rw [HN9.out]
              obtain ⟨hs9, hbx9⟩ := HS1.out.refs (v' := .slice ax9 n9 cx9) (l' := o.2 ++ [(q2, x1)]) hg9 (base_mono hb9.own (by have := HW3G.out; omega))
              have hHeld2 : Q12 (G + 1) wb P P1 Y v u9 := HQG.out u1 u9 HB7.out hg9
              have ho9 : (Value.slice ax9 n9 cx9).oneCell' = true := rfl
              obtain ⟨u10, HU10⟩ : ∃ u, Hid (u9.setCell ⟨G + 1, 1, none⟩ (.slice ax9 n9 cx9) = u) := ⟨_, rfl⟩
              have hst9 := hbx9.st1 (.slice ax9 n9 cx9) ho9
              have hc9 := hbx9.c1
              have hf9 := hbx9.f1
              rw [HU10.out] at hst9
              have HS10 : Hid (So w u10 G (dcO (ls.take (i + 1))).1 (.slice ax9 n9 cx9) (dcO (ls.take (i + 1))).2) := hid (by
                rw [HTW.out, HST.out, ← HU10.out]
                exact hs9)
              have hg910 : u9.grownBy u10 (some (G + 1)) := by rw [← HU10.out]; exact grown_set1 _ _ _ _
              have hHeld3 : Q12 (G + 1) wb P P1 Y v u10 := by
                have h1 := HWB2.out
                have h2 : wr.heap.size ≤ P := by rw [← HPP.out]; have := HB5.out.size; have := HW24.out; omega
                have h3 := HS.out.le
                exact ⟨hg910.cell hHeld2.c0 (fun e => by injection e with e; simp only at e; omega), fun j u hv => hg910.cell (hHeld2.r1 j u hv) (fun e => by injection e with e; simp only at e; omega), trivial⟩
              have HG10 : Hid (w3.grownBy u10 (some (G + 1)) ∧ u10.ownsRow w3.heap.size 76 22 (.slice ax9 n9 cx9) (dcO (ls.take (i + 1))).2.length ((dcO (ls.take (i + 1))).2.flatMap encR2)) := hid ⟨by
                  have h1 : w3.grownBy u1 (some (G + 1)) := HG6.out.trans ((grown_of_below HB7.out none).but _)
                  have h2 : w3.grownBy u9 (some (G + 1)) := ⟨hg9.os.trans h1.os, hg9.tape.trans h1.tape, hg9.output.trans h1.output, Nat.le_trans h1.size hg9.size, fun kk hk hne => (hg9.block kk (Nat.lt_of_lt_of_le hk h1.size) (fun e => by have := (own_lt HO1.out kk e.symm).1; omega)).trans (h1.block kk hk hne)⟩
                  exact h2.trans hg910, by
                  rw [HTW.out, HST.out]
                  exact own_keep hb9.own hg910 (fun j e => by cases e; exact HW3G.out)⟩
              clear hb9 hs9 hbx9 hg9 hg910
              refine hKK.out _ _ hHeld2 (fun _ => ?_)
              clear hKK KK hHeld
              try simp only [Act.put, List.setIfInBounds_toArray, List.set_cons_zero, List.set_cons_succ]
              refine takeL (i := 9) (v := ?_) rfl (by kernel_rfl) (by kernel_rfl) (by kernel_rfl) (fun _ _ _ h => h) (Or.inl ⟨by rfl, ?_⟩) hHeld2 ?_
              rotate_left
              · rintro w' ⟨c0, r1, sz⟩; go_simp; rfl
              try simp only [Act.put, List.setIfInBounds_toArray, List.set_cons_zero, List.set_cons_succ]
              refine wpAnyH_ready (rs := [10]) (by kernel_rfl) (by simp) ?_
              refine consL rfl (fun KK hKK => ?_) AllReadyH.nil
              refine step_skip (by rfl) (w' := u10) (by go_simp; exact HU10.out) ?_
              refine hKK.out _ _ hHeld3 (fun _ => ?_)
              clear hKK KK hHeld2
              try simp only [Act.put, List.setIfInBounds_toArray, List.set_cons_zero, List.set_cons_succ]
              refine wpAnyH_done (by kernel_rfl) ?_ _
              clear hHeld3
              go_wp2
              go_roundg (k - (i + 1))
              case measure => omega
              case rel => exact ⟨i + 1, .slice ax9 n9 cx9, by omega, rfl, by go_num, HS10, HG10⟩
          · have HST := hid (stO_hd (o := o) HWQ.out hp1)
            clear hp1
            by_cases hpw : p = hWd
            · have hP0 : P0 = ⟨#[104, 101, 97, 100]⟩ := by rw [← HP0.out, hpw]; rfl
              rw [hP0] at k60
              have hstc := HS6.out.b1.st0 (.string P1) rfl
              have hcs := HS6.out.b1.c0
              have hfs := HS6.out.b1.f0
              obtain ⟨w7, HW7⟩ : ∃ u, Hid (w6.setCell ⟨G + 1, 0, none⟩ (.string P1) = u) := ⟨_, rfl⟩
              have HS7 : Hid (So w w7 G (dcO (ls.take (i + 1))).1 v (dcO (ls.take (i + 1))).2) := hid (by
                rw [HTW.out, HST.out, if_pos hpw, ← HW7.out]
                exact HS6.out.head q2 P1 HP1.out)
              have HG7 : Hid (w3.grownBy w7 (some (G + 1)) ∧ w7.ownsRow w3.heap.size 76 22 v (dcO (ls.take (i + 1))).2.length ((dcO (ls.take (i + 1))).2.flatMap encR2)) := hid ⟨by rw [← HW7.out]; exact HG6.out.trans (grown_set1 _ _ _ _), by rw [HTW.out, HST.out, if_pos hpw, ← HW7.out]; exact own_keep HO6.out (grown_set1 _ _ _ _) (fun j e => by cases e; exact HW3G.out)⟩
              have al7 : w6.setCell ⟨G + 1, 0, none⟩ (.string P1) = w7 := HW7.out
              rw [HW7.out] at hstc
              clear hpw hP0
              go_wp2_with (first
                | (refine wpList_store_mid rfl 67 _ _ rfl P 0 Y.toArray rfl rfl T1.out T2.out T3.out ?_; rw [HW6.out])
                | fail)
              go_roundg (k - (i + 1))
              case measure => omega
              case rel => exact ⟨i + 1, v, by omega, rfl, by go_num, HS7, HG7⟩
            · have hpwb : (P0.toList == [104, 101, 97, 100]) = false := by
                rw [← HP0.out]
                simp
                exact hpw
              have HS7 : Hid (So w w6 G (dcO (ls.take (i + 1))).1 v (dcO (ls.take (i + 1))).2) := hid (by
                rw [HTW.out, HST.out, if_neg hpw]
                exact HS6.out)
              have HG7 : Hid (w3.grownBy w6 (some (G + 1)) ∧ w6.ownsRow w3.heap.size 76 22 v (dcO (ls.take (i + 1))).2.length ((dcO (ls.take (i + 1))).2.flatMap encR2)) := hid ⟨HG6.out, by rw [HTW.out, HST.out, if_neg hpw]; exact HO6.out⟩
              clear hpw
              go_wp2_with (first
                | (refine wpList_store_mid rfl 67 _ _ rfl P 0 Y.toArray rfl rfl T1.out T2.out T3.out ?_; rw [HW6.out])
                | fail)
              go_roundg (k - (i + 1))
              case measure => omega
              case rel => exact ⟨i + 1, v, by omega, rfl, by go_num, HS7, HG7⟩
        · have h2i : ((n2 : Int) == 2) = false := by simp; omega
          have h2j : ¬ (n2 : Int) = 2 := by omega
          have HS7 : Hid (So w w4 G (dcO (ls.take (i + 1))).1 v (dcO (ls.take (i + 1))).2) := hid (by
            rw [HTW.out, stO_not (by rw [HN2.out]; exact h2)]
            exact HS4.out)
          have HG7 : Hid (w3.grownBy w4 (some (G + 1)) ∧ w4.ownsRow w3.heap.size 76 22 v (dcO (ls.take (i + 1))).2.length ((dcO (ls.take (i + 1))).2.flatMap encR2)) := hid ⟨HG4.out, by rw [HTW.out, stO_not (by rw [HN2.out]; exact h2)]; exact HO4.out⟩
          clear hbs hps hpl hpo
          go_wp2
          go_roundg (k - (i + 1))
          case measure => omega
          case rel => exact ⟨i + 1, v, by omega, rfl, by go_num, HS7, HG7⟩
      · have hlti : ¬ (i : Int) < (k : Int) := by omega
        have HTA : Hid (ls.take i = ls) := hid (List.take_of_length_le (by rw [HKL.out]; omega))
        obtain ⟨o, HOO⟩ : ∃ o, Hid (dcO ls = o) := ⟨_, rfl⟩
        have HDW : Hid (o.1.length ≤ 1000 ∧ ∀ y ∈ o.2, IdW y.2 ∧ y.1.length ≤ 1000) := hid (by rw [← HOO.out, ← HTA.out]; exact dcO_wf ls HOK.out i)
        rw [HTA.out, HOO.out] at HS
        obtain ⟨hh, L⟩ := o
        simp only at HDW HS
        have HIR : Hid (IdR L) := hid (fun y hy => (HDW.out.2 y hy).1)
        have hbx : BRd wr wr (G + 2) v L := ⟨Below.refl _ _, HS.out.own, HS.out.le⟩
        obtain ⟨a1, c1, rfl, hp1, hpl1, _⟩ := hbx.px (d := rf0) (encR2_ln HIR.out)
        obtain ⟨n1, HN1⟩ : ∃ n, Hid (L.length = n) := ⟨_, rfl⟩
        rw [HN1.out] at HS HGR
        obtain ⟨X, HX⟩ : ∃ X : ByteArray, Hid (⟨hh.toArray⟩ = X) := ⟨_, hid rfl⟩
        have hb1' := HS.out.b1
        rw [HX.out] at hb1'
        have R0 : Hid (wr.rangeAt (G + 1) 0 [.string X, .slice a1 n1 c1]) := hid (range_row hb1')
        have HXB := hid hb1'
        have HP1 := hid hp1
        have HPL1 := hid hpl1
        have C9 : Hid (Calls Tryz.prog 9 #[.agg #[.string X, .slice a1 n1 c1]] wr (PostWDo hh L wr wr.heap.size)) := hid (by
          rw [← HN1.out, ← HX.out]
          exact refWriteOffer_any hh (by have := HDW.out.1; omega) a1 c1 L hp1 (fun y hy => ⟨by have := (HDW.out.2 y hy).2; omega, (HDW.out.2 y hy).1⟩))
        have HWK : Hid (∀ h2 l2, Ook s h2 l2 → h2 = hh ∧ l2 = L) := hid (fun h2 l2 kk => by
          have h1 := ook_doc kk HOK.out HSS.out
          rw [HOO.out] at h1
          exact ⟨(congrArg Prod.fst h1).symm, (congrArg Prod.snd h1).symm⟩)
        have HLS : Hid (∃ ls, okL ls ∧ s = pktL ls) := hid ⟨ls, HOK.out, HSS.out⟩
        have hbz : ∀ W : World, (Instr.build 32 #[]).run Tryz.prog W = .ok (.agg #[.string ⟨#[]⟩, .slice none 0 0]) W := fun W => run_b32z W
        clear hbx hp1 hpl1 hb1'
        go_wp2_with (first
          | (refine wpList_load_mid rfl 32 _ rfl (G + 1) 0 rfl [.string X, .slice a1 n1 c1] _ R0.out HD1.out HD2.out size32 ?_)
          | fail)
        refine C9.out.mono ?_
        rintro e w6 ⟨hb6, ⟨h1, a6, c6, rfl, hp6⟩ | ⟨h1, rfl⟩⟩
        · obtain ⟨S, HSB⟩ : ∃ S, Hid (ofB hh L = S) := ⟨_, rfl⟩
          rw [HSB.out] at hp6
          rw [HSB.out]
          obtain ⟨q, HQ⟩ : ∃ n, Hid (S.length = n) := ⟨_, rfl⟩
          have hS6 := HS.out.below hb6
          obtain ⟨X1, HX1⟩ : ∃ X : ByteArray, Hid (⟨S.toArray⟩ = X) := ⟨_, hid rfl⟩
          obtain ⟨X2, HX2⟩ : ∃ X : ByteArray, Hid (⟨s.toArray⟩ = X) := ⟨_, hid rfl⟩
          have hcv1 : (convert 25 9 (.slice a6 q c6)).run Tryz.prog w6 = .ok (.string X1) w6 := by
            have := conv_str hp6
            rw [HQ.out, sV_out, HX1.out] at this
            exact this
          have hcv2 : (convert 25 9 (.slice a m cap)).run Tryz.prog w6 = .ok (.string X2) w6 := by
            have := conv_str (HPS.out w6 hS6.bl)
            rw [HM.out, sV_out, HX2.out] at this
            exact this
          have R6 : Hid (w6.rangeAt (G + 1) 0 [.string X, .slice a1 n1 c1]) := hid (range_row (HXB.out.below hb6))
          obtain ⟨W8, z1, z2', z3, z4, _⟩ := HFIN.out w6 _ _ (.string ⟨#[]⟩) (.slice none 0 0) _ hS6
          obtain ⟨W9, y1, y2, y3, y4, y5⟩ := HFIN.out w6 _ _ (.string X) (.slice a1 n1 c1) _ hS6
          have Z1 := hid z1
          have Z2 := hid z2'
          have Z3 := hid z3
          have Z4 := hid z4
          have Y1 := hid y1
          have Y2 := hid y2
          have Y3 := hid y3
          have Y4 := hid y4
          have T2 : Hid ((Tryz.prog.info? 32).map (·.size) = some (#[.string X, .slice a1 n1 c1] : Array Value).size) := hid size32
          have T3 : Hid ((#[.string X, .slice a1 n1 c1] : Array Value).all (·.oneCell') = true) := hid (by simp [Value.oneCell'])
          have F : Hid (PRd W9 a1 c1 L) := hid (Px.grown (HP1.out.below hb6) (fun p hp e => by have := (HPL1.out p hp).1; omega) y5)
          have H1 := hid h1
          rw [HQ.out]
          clear h1 hp6 hb6 hS6 z1 z2' z3 z4 y1 y2 y3 y4 y5
          by_cases hSs : S = s
          · have HGD : Hid (Ook s hh L) := hid ⟨H1.out, HIR.out, by rw [HSB.out]; exact hSs.symm⟩
            have hxx : X1 = X2 := by rw [← HX1.out, ← HX2.out, hSs]
            subst hxx
            clear hSs
            go_wp2_with (first
              | (refine wpList_load_mid rfl 32 _ rfl (G + 1) 0 rfl [.string X, .slice a1 n1 c1] _ R6.out HD1.out HD2.out size32 ?_)
              | (refine wpList_store_mid rfl 32 _ _ rfl G 0 #[.string X, .slice a1 n1 c1] rfl rfl Y2.out T2.out T3.out ?_; rw [Y1.out])
              | fail)
            refine bodyPost_ret (Hx.results_mid2 (t2 := 3) Tryz.results37 _ _ G [.string X, .slice a1 n1 c1] _ _ rfl rfl Y4.out HD1.out HD2.out size32) rfl ?_
            exact ⟨Y3.out, .inl ⟨hh, L, a1, c1, HGD.out, by rw [HX.out, HN1.out]; rfl, F.out⟩⟩
          · have HGD : Hid (¬ ∃ h l, Ook s h l) := hid (fun ⟨h2, l2, kk⟩ => by
              obtain ⟨e1, e2⟩ := HWK.out h2 l2 kk
              subst e1 e2
              exact hSs (by rw [← HSB.out]; exact kk.b.symm))
            have hxx : (X1.toList == X2.toList) = false := by
              rw [← HX1.out, ← HX2.out]
              simp
              exact hSs
            have hxn : (X1.toList != X2.toList) = true := by rw [bne, hxx]; rfl
            clear hSs
            go_wp2_with (first
              | (refine wpList_build0 rfl 32 rfl _ (hbz _) ?_)
              | (refine wpList_store_mid rfl 32 _ _ rfl G 0 #[.string ⟨#[]⟩, .slice none 0 0] rfl rfl Z2.out TZ2.out TZ3.out ?_; rw [Z1.out])
              | fail)
            refine bodyPost_ret (Hx.results_mid2 (t2 := 3) Tryz.results37 _ _ G [.string ⟨#[]⟩, .slice none 0 0] _ _ rfl rfl Z4.out HD1.out HD2.out size32) rfl ?_
            exact ⟨Z3.out, .inr (.inl ⟨HGD.out, HLS.out, rfl⟩)⟩
        · obtain ⟨W8, z1, z2', z3, z4, _⟩ := HFIN.out w6 _ _ (.string ⟨#[]⟩) (.slice none 0 0) _ (HS.out.below hb6)
          have Z1 := hid z1
          have Z2 := hid z2'
          have Z3 := hid z3
          have Z4 := hid z4
          have HGD : Hid (¬ ∃ h l, Ook s h l) := hid (fun ⟨h2, l2, kk⟩ => by
            obtain ⟨e1, e2⟩ := HWK.out h2 l2 kk
            subst e1 e2
            exact h1 kk.ok)
          clear h1 hb6 z1 z2' z3 z4
          go_wp2_with (first
            | (refine wpList_build0 rfl 32 rfl _ (hbz _) ?_)
            | (refine wpList_store_mid rfl 32 _ _ rfl G 0 #[.string ⟨#[]⟩, .slice none 0 0] rfl rfl Z2.out TZ2.out TZ3.out ?_; rw [Z1.out])
            | fail)
          refine bodyPost_ret (Hx.results_mid2 (t2 := 3) Tryz.results37 _ _ G [.string ⟨#[]⟩, .slice none 0 0] _ _ rfl rfl Z4.out HD1.out HD2.out size32) rfl ?_
          exact ⟨Z3.out, .inr (.inl ⟨HGD.out, HLS.out, rfl⟩)⟩
  · obtain ⟨W8, z1, z2', z3, z4, _⟩ := HFIN.out w3 [] (.slice none 0 0) (.string ⟨#[]⟩) (.slice none 0 0) [] (S2.out.below hb3)
    have Z0 : Hid (w3.rangeAt (G + 1) 0 [.string ⟨#[]⟩, .slice none 0 0]) := hid (range_row (S2.out.below hb3).b1)
    have Z1 := hid z1
    have Z2 := hid z2'
    have Z3 := hid z3
    have Z4 := hid z4
    have HNO := hid hno
    clear hno hb3 z1 z2' z3 z4
    go_wp2_with (first
      | (refine wpList_load_mid rfl 32 _ rfl (G + 1) 0 rfl [.string ⟨#[]⟩, .slice none 0 0] _ Z0.out HD1.out HD2.out size32 ?_)
      | (refine wpList_store_mid rfl 32 _ _ rfl G 0 #[.string ⟨#[]⟩, .slice none 0 0] rfl rfl Z2.out TZ2.out TZ3.out ?_; rw [Z1.out])
      | fail)
    refine bodyPost_ret (Hx.results_mid2 (t2 := 3) Tryz.results37 _ _ G [.string ⟨#[]⟩, .slice none 0 0] _ _ rfl rfl Z4.out HD1.out HD2.out size32) rfl ?_
    exact ⟨Z3.out, .inr (.inr ⟨HNO.out, rfl⟩)⟩
end Go.Proofs.YtijeogdnjeamaaaGreatDoor
