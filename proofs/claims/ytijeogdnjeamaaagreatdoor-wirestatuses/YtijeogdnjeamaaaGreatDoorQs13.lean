import Derived.Test.YtijeogdnjeamaaaGreatDoorQs12
namespace Go.Proofs.YtijeogdnjeamaaaGreatDoor
open Go.RowKit
set_option linter.unusedVariables false
set_option linter.unusedSimpArgs false
theorem run_b59a (A : ByteArray) (w : World) : (Instr.build 59 #[(0, .string A)]).run Tryz.prog w = .ok (.agg #[.string A, .int .i64 0]) w := by kernel_rfl
theorem run_b59b (A : ByteArray) (v : Int) (w : World) : (Instr.build 59 #[(0, .string A), (1, .int .i64 v)]).run Tryz.prog w = .ok (.agg #[.string A, .int .i64 v]) w := by kernel_rfl
theorem run_b55 (A : ByteArray) (v : Int) (w : World) : (Instr.buildSlice 55 1 #[(0, .agg #[.string A, .int .i64 v])]).run Tryz.prog w = .ok (.slice (some ⟨w.heap.size, 0, none⟩) 1 1) (w.alloc (.cells #[.string A, .int .i64 v] 59)) := by kernel_rfl
theorem info59 : (Tryz.prog.info? 59).map (fun i => (i.zero, i.size, i.bytes)) = some (some (.agg #[.string ⟨#[]⟩, .int .i64 0]), 2, 24) := by kernel_rfl
theorem Tryz.results53 : Tryz.f53.results = #[.tmp 2, .tmp 3] := by kernel_rfl
def PostRDs (s : Str) (w : World) (G : Nat) (e : Ending) (w' : World) : Prop :=
  Below G w w' ∧ ((∃ l v, Sok s l ∧ e = .returned (.tuple #[v, .int .i64 0]) ∧ BSt 59 w w' G v l) ∨ ((¬ ∃ l, Sok s l) ∧ (∃ ls, okL ls ∧ s = pktL ls) ∧ e = .returned (.tuple #[.slice none 0 0, .int .i64 111])) ∨ ((¬ ∃ ls, okL ls ∧ s = pktL ls) ∧ e = .returned (.tuple #[.slice none 0 0, .int .i64 110])))
theorem fmS_snoc (ls : List Str) (i : Nat) (x : Str) (h : i < ls.length) (hx : ls.getD i [] = x) : (ls.take (i + 1)).flatMap lnS = (ls.take i).flatMap lnS ++ lnS x := by
  rw [take_snocG [] ls i h, hx, List.flatMap_append]
  simp
theorem three_of (l : List Str) (h : l.length = 3) : ∃ p q r, l = [p, q, r] := by
  match l, h with
  | [p, q, r], _ => exact ⟨p, q, r, rfl⟩
def ndf (n : Int) (ch : UInt8) : Int := n * 10 + (ch.toNat : Int) - 48
theorem nd_ndf (c : Str) : nd c = (c.take 4).foldl ndf 0 := rfl
theorem ndf_snoc (c : Str) (k : Nat) (h : k < c.length) : (c.take (k + 1)).foldl ndf 0 = ndf ((c.take k).foldl ndf 0) (c.getD k 0) := by
  rw [take_snocG 0 c k h, List.foldl_append]
  rfl
theorem ndf_fit (c : Str) : ∀ k, k ≤ 4 → -(1000000 : Int) ≤ (c.take k).foldl ndf 0 ∧ (c.take k).foldl ndf 0 ≤ 1000000 := by
  intro k hk
  have hb : ∀ x : UInt8, (x.toNat : Int) < 256 := fun x => by have := x.toNat_lt; omega
  match k, c with
  | 0, c => simp
  | k + 1, [] => simp
  | 1, a :: r => have := hb a; simp [ndf]; omega
  | 2, [a] => have := hb a; simp [ndf]; omega
  | 2, a :: b :: r => have := hb a; have := hb b; simp [ndf]; omega
  | 3, [a] => have := hb a; simp [ndf]; omega
  | 3, [a, b] => have := hb a; have := hb b; simp [ndf]; omega
  | 3, a :: b :: d :: r => have := hb a; have := hb b; have := hb d; simp [ndf]; omega
  | 4, [a] => have := hb a; simp [ndf]; omega
  | 4, [a, b] => have := hb a; have := hb b; simp [ndf]; omega
  | 4, [a, b, d] => have := hb a; have := hb b; have := hb d; simp [ndf]; omega
  | 4, a :: b :: d :: e :: r => have := hb a; have := hb b; have := hb d; have := hb e; simp [ndf]; omega
theorem index_any (s : Str) (k : Nat) (h : k < s.length) (X : ByteArray) (hX : ⟨s.toArray⟩ = X) (w : World) : (Instr.index 9 (.string X) (.int .i64 k)).run Tryz.prog w = .ok (.int .u8 ((s.getD k 0).toNat : Int)) w := by
  subst hX
  exact Hx.index_sgn ⟨s.toArray⟩ k w (by rw [txt_len]; exact h)
set_option maxRecDepth 20000 in
set_option maxHeartbeats 8000000 in
theorem refReadStatus_any {w : World} (a : Option Addr) (cap : Nat) (s : Str) (hP : PB w a cap s) (hl : s.length ≤ 8000) :
    Calls Tryz.prog 53 #[.slice a s.length cap] w (PostRDs s w w.heap.size) := by
  obtain ⟨G, HG⟩ : ∃ n, Hid (w.heap.size = n) := ⟨_, rfl⟩
  obtain ⟨m, HM⟩ : ∃ n, Hid (s.length = n) := ⟨_, rfl⟩
  have C68 : Hid (Calls Tryz.prog 68 #[.slice a m cap] w (PostLd s w)) := hid (by
    rw [← HM.out]
    exact refLines_any a cap s hP (by omega))
  have HPB : Hid (∀ (aa : Option Addr) (cc : Nat) (r : Str), PB w aa cc r → ∀ W, Below G w W → PB W aa cc r) := hid (fun aa cc r h W hW => h.below (by rw [HG.out]; exact hW))
  have HPS := hid hP
  have HL8 := hid hl
  have HGS : Hid (∀ X, Below G w X → G ≤ X.heap.size) := hid (fun X hX => by have := hX.size; have := HG.out; omega)
  rw [HM.out, HG.out]
  clear hP hl
  go_enter Tryz.func53, Tryz.ntmps53
  go_wp2_with fail
  refine C68.out.mono ?_
  rintro e w1 ⟨hb1, ⟨ls, hok, hs, v, ts, rfl, hbt, hat, hts⟩ | ⟨hno, rfl⟩⟩
  · obtain ⟨lb, lc, rfl, hpt, _⟩ := hbt.px (d := dT) (fun _ _ => rfl)
    obtain ⟨k, HK⟩ : ∃ n, Hid (ts.length = n) := ⟨_, rfl⟩
    have hkl : ls.length = k := by rw [← hts, List.length_map]; exact HK.out
    have HKL := hid hkl
    have hk2 : k ≤ 2000 := by
      have h1 := pktL_cnt ls
      rw [← hs, hkl] at h1
      have := HL8.out
      omega
    have HOK := hid hok
    have HSS := hid hs
    have HB1 : Hid (Below G w w1) := hid (by rw [← HG.out]; exact hb1)
    have HPT : Hid (∀ W, Below w1.heap.size w1 W → PT W lb lc ts) := hid (fun W hW => hpt.below hW)
    have HFA : Hid (0 < k → ∃ bb off, lb = some ⟨bb, off, none⟩) := hid (fun h => by
      obtain ⟨b, off, e1, _⟩ := hpt.at_ (by rw [HK.out]; exact h)
      exact ⟨b, off, e1⟩)
    have HAT : Hid (∀ i, i < k → PB w (ts.getD i dT).1 (ts.getD i dT).2.1 (ts.getD i dT).2.2 ∧ (ts.getD i dT).2.2 = ls.getD i []) := hid (fun i hi => by
      refine ⟨hat _ (getD_mem ts i dT (by rw [HK.out]; exact hi)), ?_⟩
      rw [← hts, List.getD_eq_getElem?_getD, List.getD_eq_getElem?_getD, List.getElem?_map, List.getElem?_eq_getElem (by rw [HK.out]; exact hi)]
      rfl)
    obtain ⟨B1, HBB⟩ : ∃ n, Hid (w1.heap.size = n) := ⟨_, rfl⟩
    have HGB : Hid (G ≤ B1) := hid (by rw [← HBB.out]; exact HGS.out w1 HB1.out)
    have S0 : Hid (BSt 59 w1 w1 B1 (.slice none 0 0) ((ls.take 0).flatMap lnS)) := hid (bx_nil 59 w1 B1 (by rw [HBB.out]; exact Nat.le_refl _))
    rw [HK.out]
    clear hb1 hok hs hbt hat hts hpt hkl
    go_wp2_with fail
    go_loopg [6, 7] k (fun gg ov iv wr => ∃ i : Nat, i ≤ k ∧ gg = k - i ∧ iv = .int .i64 i ∧ Hid (BSt 59 w1 wr B1 ov ((ls.take i).flatMap lnS)))
    case atStart => exact ⟨0, Nat.zero_le _, rfl, rfl, S0⟩
    case round =>
      obtain ⟨i, hi, hkk, rfl, HT⟩ := hrel
      by_cases hlt : i < k
      · have hlti : (i : Int) < (k : Int) := by omega
        obtain ⟨bb, off, rfl⟩ := HFA.out (by omega)
        have hil : i < ls.length := by rw [HKL.out]; exact hlt
        obtain ⟨x, HX⟩ : ∃ x, Hid (ls.getD i [] = x) := ⟨_, rfl⟩
        obtain ⟨hpx, hxe⟩ := HAT.out i hlt
        rw [HX.out] at hxe
        rw [hxe] at hpx
        obtain ⟨ta, HTA⟩ : ∃ y, Hid ((ts.getD i dT).1 = y) := ⟨_, rfl⟩
        obtain ⟨tc, HTC⟩ : ∃ y, Hid ((ts.getD i dT).2.1 = y) := ⟨_, rfl⟩
        rw [HTA.out, HTC.out] at hpx
        obtain ⟨q, HQ⟩ : ∃ n, Hid (x.length = n) := ⟨_, rfl⟩
        have HBW : Hid (Below w1.heap.size w1 wr) := hid (by rw [HBB.out]; exact HT.out.below)
        have HGW : Hid (Below G w wr) := hid (HB1.out.trans (HBW.out.mono (HGS.out w1 HB1.out)))
        have kc : wr.cell? ⟨bb, off + i, none⟩ = some (.slice ta q tc) := by
          obtain ⟨b', off', e1, _, e3⟩ := (HPT.out wr HBW.out).at_ (by rw [HK.out]; omega)
          cases e1
          have := e3 i (by rw [HK.out]; exact hlt) 0 _ rfl
          rw [show off + i * 1 + 0 = off + i by omega, hxe, HTA.out, HTC.out, HQ.out] at this
          exact this
        have hxl : x.length ≤ 1000 := by rw [← HX.out]; exact HOK.out _ (getD_mem ls i [] hil)
        have HXL := hid hxl
        have CW : Hid (Calls Tryz.prog 69 #[.slice ta q tc] wr fun e w' => ∃ v, e = .returned v ∧ BS wr w' wr.heap.size v (wdsA [] x)) := hid (by
          rw [← HQ.out]
          exact words_any ta tc x (HPB.out _ _ _ hpx wr HGW.out) hxl)
        have HTW : Hid ((ls.take (i + 1)).flatMap lnS = (ls.take i).flatMap lnS ++ lnS x) := hid (fmS_snoc ls i x hil HX.out)
        have HCW : Hid (((ls.take i).flatMap lnS).length ≤ 20000) := hid (by have := lnSL_cnt (ls.take i); rw [List.length_take] at this; omega)
        clear hil hpx hxe hxl
        go_wp2_with fail
        refine CW.out.mono ?_
        rintro e w2 ⟨v2, rfl, hbs⟩
        obtain ⟨wa, wc, rfl, hps, hpl, hpo⟩ := hbs.px (d := []) (encS_len _)
        have HT2 : Hid (BSt 59 w1 w2 B1 u6 ((ls.take i).flatMap lnS)) := hid (Bx.carry HT.out hbs.below)
        obtain ⟨n2, HN2⟩ : ∃ n, Hid ((wdsA [] x).length = n) := ⟨_, rfl⟩
        rw [HN2.out]
        by_cases h2 : n2 = 2
        · obtain ⟨p, q2, hpq⟩ := two_of _ (HN2.out.trans h2)
          rw [hpq] at hps
          have hl2 : q2.length ≤ 1000 := by
            have := wds_len x [] q2 (by rw [hpq]; simp)
            have := HXL.out
            simp at *
            omega
          obtain ⟨wb, rfl⟩ : ∃ b, wa = some ⟨b, 0, none⟩ := by
            rcases hpo with h | h
            · obtain ⟨b, off', e1, _⟩ := hps.at_ (by simp)
              rw [h] at e1
              cases e1
            · exact h
          obtain ⟨P0, HP0⟩ : ∃ X : ByteArray, Hid (⟨p.toArray⟩ = X) := ⟨_, hid rfl⟩
          obtain ⟨P1, HP1⟩ : ∃ X : ByteArray, Hid (⟨q2.toArray⟩ = X) := ⟨_, hid rfl⟩
          have k0 : w2.cell? ⟨wb, 0, none⟩ = some (.string P0) := by
            obtain ⟨b', off', e1, _, e3⟩ := hps.at_ (by simp)
            cases e1
            have := e3 0 (by simp) 0 _ rfl
            simpa [sV, HP0.out] using this
          have k1 : w2.cell? ⟨wb, 1, none⟩ = some (.string P1) := by
            obtain ⟨b', off', e1, _, e3⟩ := hps.at_ (by simp)
            cases e1
            have := e3 1 (by simp) 0 _ rfl
            simpa [sV, HP1.out] using this
          have HLW : Hid (lnS x = if p = ok2 then [(q2, 0)] else []) := hid (lnS_two hpq)
          rw [h2]
          clear hbs hps hpl hpo hpq hl2 kc h2
          by_cases hpw : p = ok2
          · have hP0 : P0 = ⟨#[111, 107]⟩ := by rw [← HP0.out, hpw]; rfl
            rw [hP0] at k0
            have hbd : ∀ W : World, (Instr.build 59 #[(0, .string P1)]).run Tryz.prog W = .ok (.agg #[.string P1, .int .i64 0]) W := fun W => run_b59a P1 W
            obtain ⟨K7, HK7⟩ : ∃ K, Hid (w2.heap.size = K) := ⟨_, rfl⟩
            obtain ⟨wq, HWQ⟩ : ∃ W, Hid (w2.alloc (.cells #[.string P1, .int .i64 0] 59) = W) := ⟨_, rfl⟩
            have HBLD : Hid ((Instr.buildSlice 55 1 #[(0, .agg #[.string P1, .int .i64 0])]).run Tryz.prog w2 = .ok (.slice (some ⟨K7, 0, none⟩) 1 1) wq) := hid (by rw [← HK7.out, ← HWQ.out]; exact run_b55 P1 0 w2)
            have HV7 : Hid (BSt 59 w1 wq B1 u6 ((ls.take i).flatMap lnS)) := hid (by rw [← HWQ.out]; exact Bx.alloc HT2.out _)
            have HP8 : Hid (PSt wq (some ⟨K7, 0, none⟩) 1 [(q2, (0 : Int))]) := hid (by
              have := pst_one w2 (q2, (0 : Int)) 59
              rw [show encSt (q2, (0 : Int)) = [.string P1, .int .i64 0] by rw [← HP1.out]; rfl, HK7.out] at this
              rw [← HWQ.out]
              exact this)
            have HSUM : Hid (((ls.take i).flatMap lnS).length + [(q2, (0 : Int))].length ≤ 30000) := hid (by have := HCW.out; simp only [List.length_cons, List.length_nil]; omega)
            clear hP0
            go_wp2_with (first
              | (refine wpList_build1 rfl 59 _ rfl (.string P1) _ rfl (hbd _) ?_)
              | refine wpList_bS rfl 55 1 _ rfl (.agg #[.string P1, .int .i64 0]) _ rfl HBLD.out ?_
              | (refine wpList_bx_sl (enc := encSt) (k := 2) (d := st0) rfl _ _ 55 59 Tryz.underlying55 info59 rfl (by decide) (by decide) encSt_one rfl B1 u6 ((ls.take i).flatMap lnS) rfl HV7.out (some ⟨K7, 0, none⟩) 1 [(q2, (0 : Int))] rfl HP8.out (encSt_len _) HSUM.out ?_; intro v8 w8 hb8 hg8)
              | fail)
            have HT8 : Hid (BSt 59 w1 w8 B1 v8 ((ls.take (i + 1)).flatMap lnS)) := hid (by
              rw [HTW.out, HLW.out, if_pos hpw]
              exact hb8)
            clear hb8 hg8 hpw
            try go_wp2
            go_roundg (k - (i + 1))
            case measure => omega
            case rel => exact ⟨i + 1, by omega, rfl, by go_num, HT8⟩
          · have hpwb : (P0.toList == [111, 107]) = false := by
              rw [← HP0.out]
              simp
              exact hpw
            have HT8 : Hid (BSt 59 w1 w2 B1 u6 ((ls.take (i + 1)).flatMap lnS)) := hid (by
              rw [HTW.out, HLW.out, if_neg hpw, List.append_nil]
              exact HT2.out)
            clear hpw
            go_wp2
            go_roundg (k - (i + 1))
            case measure => omega
            case rel => exact ⟨i + 1, by omega, rfl, by go_num, HT8⟩
        · have h2i : ((n2 : Int) == 2) = false := by simp; omega
          have h2j : ¬ (n2 : Int) = 2 := by omega
          by_cases h3 : n2 = 3
          · obtain ⟨p, q2, r, hpq⟩ := three_of _ (HN2.out.trans h3)
            rw [hpq] at hps
            have hlr : r.length ≤ 1000 := by
              have := wds_len x [] r (by rw [hpq]; simp)
              have := HXL.out
              simp at *
              omega
            obtain ⟨wb, rfl⟩ : ∃ b, wa = some ⟨b, 0, none⟩ := by
              rcases hpo with h | h
              · obtain ⟨b, off', e1, _⟩ := hps.at_ (by simp)
                rw [h] at e1
                cases e1
              · exact h
            obtain ⟨P0, HP0⟩ : ∃ X : ByteArray, Hid (⟨p.toArray⟩ = X) := ⟨_, hid rfl⟩
            obtain ⟨P1, HP1⟩ : ∃ X : ByteArray, Hid (⟨q2.toArray⟩ = X) := ⟨_, hid rfl⟩
            obtain ⟨P2, HP2⟩ : ∃ X : ByteArray, Hid (⟨r.toArray⟩ = X) := ⟨_, hid rfl⟩
            have k0 : w2.cell? ⟨wb, 0, none⟩ = some (.string P0) := by
              obtain ⟨b', off', e1, _, e3⟩ := hps.at_ (by simp)
              cases e1
              have := e3 0 (by simp) 0 _ rfl
              simpa [sV, HP0.out] using this
            have k1 : w2.cell? ⟨wb, 1, none⟩ = some (.string P1) := by
              obtain ⟨b', off', e1, _, e3⟩ := hps.at_ (by simp)
              cases e1
              have := e3 1 (by simp) 0 _ rfl
              simpa [sV, HP1.out] using this
            have k2 : w2.cell? ⟨wb, 2, none⟩ = some (.string P2) := by
              obtain ⟨b', off', e1, _, e3⟩ := hps.at_ (by simp)
              cases e1
              have := e3 2 (by simp) 0 _ rfl
              simpa [sV, HP2.out] using this
            have HLW : Hid (lnS x = if p = ng2 then [(q2, nd r)] else []) := hid (lnS_three hpq)
            obtain ⟨rl, HRL⟩ : ∃ n, Hid (r.length = n) := ⟨_, rfl⟩
            have hP2s : P2.size = rl := by rw [← HP2.out, txt_len]; exact HRL.out
            have hrl : rl ≤ 1000 := by rw [← HRL.out]; exact hlr
            rw [h3]
            clear hbs hps hpl hpo hpq hlr kc h2 h2i h2j h3
            by_cases hpw : p = ng2
            · have hP0 : P0 = ⟨#[110, 103]⟩ := by rw [← HP0.out, hpw]; rfl
              rw [hP0] at k0
              clear hP0
              go_wp2_with fail
              go_loopg [9, 10] 4 (fun gg nv jv wq => ∃ (j : Nat) (F : Int), j ≤ 4 ∧ gg = 4 - j ∧ jv = .int .i64 j ∧ nv = .int .i64 F ∧ j ≤ rl ∧ Hid ((r.take j).foldl ndf 0 = F) ∧ Hid (wq = w2))
              case atStart => exact ⟨0, 0, by omega, rfl, rfl, rfl, Nat.zero_le _, hid rfl, hid rfl⟩
              case round =>
                obtain ⟨j, F, hj4, hjk, rfl, rfl, hjr, HF, HWW⟩ := hrel
                have hww := HWW.out
                subst hww
                clear HWW
                have hFf := ndf_fit r j hj4
                rw [HF.out] at hFf
                by_cases hgo : j < rl ∧ j < 4
                · have hj1 : (j : Int) < (rl : Int) := by omega
                  have hj2 : (j : Int) < 4 := by omega
                  have hjl : j < r.length := by rw [HRL.out]; exact hgo.1
                  obtain ⟨c, HC⟩ : ∃ c : Int, Hid (((r.getD j 0).toNat : Int) = c) := ⟨_, rfl⟩
                  have hcb : 0 ≤ c ∧ c < 256 := by rw [← HC.out]; have := (r.getD j 0).toNat_lt; omega
                  have hix : ∀ W : World, (Instr.index 9 (.string P2) (.int .i64 j)).run Tryz.prog W = .ok (.int .u8 c) W := fun W => by
                    rw [← HC.out]
                    exact index_any r j hjl P2 HP2.out W
                  obtain ⟨F2, HF2⟩ : ∃ F2 : Int, Hid ((r.take (j + 1)).foldl ndf 0 = F2) := ⟨_, rfl⟩
                  have hF2 : F * 10 + c - 48 = F2 := by
                    rw [← HF2.out, ndf_snoc r j hjl, HF.out]
                    unfold ndf
                    rw [HC.out]
                  clear hjl
                  go_wp2
                  go_roundg (4 - (j + 1))
                  case measure => omega
                  case rel => exact ⟨j + 1, F2, by omega, rfl, by go_num, by go_num, by omega, HF2, hid rfl⟩
                · have hnd : nd r = F := by
                    rw [nd_ndf, ← HF.out]
                    by_cases h4 : j = 4
                    · rw [h4]
                    · have h5 : rl ≤ j := by omega
                      rw [List.take_of_length_le (by rw [HRL.out]; omega), List.take_of_length_le (by rw [HRL.out]; omega)]
                  have hbd : ∀ W : World, (Instr.build 59 #[(0, .string P1), (1, .int .i64 F)]).run Tryz.prog W = .ok (.agg #[.string P1, .int .i64 F]) W := fun W => run_b59b P1 F W
                  obtain ⟨K7, HK7⟩ : ∃ K, Hid (wr.heap.size = K) := ⟨_, rfl⟩
                  obtain ⟨wq, HWQ⟩ : ∃ W, Hid (wr.alloc (.cells #[.string P1, .int .i64 F] 59) = W) := ⟨_, rfl⟩
                  have HBLD : Hid ((Instr.buildSlice 55 1 #[(0, .agg #[.string P1, .int .i64 F])]).run Tryz.prog wr = .ok (.slice (some ⟨K7, 0, none⟩) 1 1) wq) := hid (by rw [← HK7.out, ← HWQ.out]; exact run_b55 P1 F wr)
                  have HV7 : Hid (BSt 59 w1 wq B1 u6 ((ls.take i).flatMap lnS)) := hid (by rw [← HWQ.out]; exact Bx.alloc HT2.out _)
                  have HP8 : Hid (PSt wq (some ⟨K7, 0, none⟩) 1 [(q2, F)]) := hid (by
                    have := pst_one wr (q2, F) 59
                    rw [show encSt (q2, F) = [.string P1, .int .i64 F] by rw [← HP1.out]; rfl, HK7.out] at this
                    rw [← HWQ.out]
                    exact this)
                  have HSUM : Hid (((ls.take i).flatMap lnS).length + [(q2, F)].length ≤ 30000) := hid (by have := HCW.out; simp only [List.length_cons, List.length_nil]; omega)
                  have HT8 : Hid (∀ v8 w8, BSt 59 w1 w8 B1 v8 ((ls.take i).flatMap lnS ++ [(q2, F)]) → BSt 59 w1 w8 B1 v8 ((ls.take (i + 1)).flatMap lnS)) := hid (fun v8 w8 h => by
                    rw [HTW.out, HLW.out, if_pos hpw, hnd]
                    exact h)
                  clear hnd hpw
                  by_cases hj1 : j < rl
                  · have hj1i : (j : Int) < (rl : Int) := by omega
                    have hj2 : ¬ (j : Int) < 4 := by omega
                    clear hgo
                    go_wp2_with (first
                      | (refine wpList_build2 rfl 59 _ _ rfl (.string P1) (.int .i64 F) _ rfl rfl (hbd _) ?_)
                      | refine wpList_bS rfl 55 1 _ rfl (.agg #[.string P1, .int .i64 F]) _ rfl HBLD.out ?_
                      | (refine wpList_bx_sl (enc := encSt) (k := 2) (d := st0) rfl _ _ 55 59 Tryz.underlying55 info59 rfl (by decide) (by decide) encSt_one rfl B1 u6 ((ls.take i).flatMap lnS) rfl HV7.out (some ⟨K7, 0, none⟩) 1 [(q2, F)] rfl HP8.out (encSt_len _) HSUM.out ?_; intro v8 w8 hb8 hg8)
                      | fail)
                    have HT9 := hid (HT8.out v8 w8 hb8)
                    clear hb8 hg8
                    try go_wp2
                    go_roundg (k - (i + 1))
                    case measure => omega
                    case rel => exact ⟨i + 1, by omega, rfl, by go_num, HT9⟩
                  · have hj1i : ¬ (j : Int) < (rl : Int) := by omega
                    clear hgo
                    go_wp2_with (first
                      | (refine wpList_build2 rfl 59 _ _ rfl (.string P1) (.int .i64 F) _ rfl rfl (hbd _) ?_)
                      | refine wpList_bS rfl 55 1 _ rfl (.agg #[.string P1, .int .i64 F]) _ rfl HBLD.out ?_
                      | (refine wpList_bx_sl (enc := encSt) (k := 2) (d := st0) rfl _ _ 55 59 Tryz.underlying55 info59 rfl (by decide) (by decide) encSt_one rfl B1 u6 ((ls.take i).flatMap lnS) rfl HV7.out (some ⟨K7, 0, none⟩) 1 [(q2, F)] rfl HP8.out (encSt_len _) HSUM.out ?_; intro v8 w8 hb8 hg8)
                      | fail)
                    have HT9 := hid (HT8.out v8 w8 hb8)
                    clear hb8 hg8
                    try go_wp2
                    go_roundg (k - (i + 1))
                    case measure => omega
                    case rel => exact ⟨i + 1, by omega, rfl, by go_num, HT9⟩
            · have hpwb : (P0.toList == [110, 103]) = false := by
                rw [← HP0.out]
                simp
                exact hpw
              have HT8 : Hid (BSt 59 w1 w2 B1 u6 ((ls.take (i + 1)).flatMap lnS)) := hid (by
                rw [HTW.out, HLW.out, if_neg hpw, List.append_nil]
                exact HT2.out)
              clear hpw
              go_wp2
              go_roundg (k - (i + 1))
              case measure => omega
              case rel => exact ⟨i + 1, by omega, rfl, by go_num, HT8⟩
          · have h3i : ((n2 : Int) == 3) = false := by simp; omega
            have h3j : ¬ (n2 : Int) = 3 := by omega
            have HT8 : Hid (BSt 59 w1 w2 B1 u6 ((ls.take (i + 1)).flatMap lnS)) := hid (by
              rw [HTW.out, lnS_not (by rw [HN2.out]; exact h2) (by rw [HN2.out]; exact h3), List.append_nil]
              exact HT2.out)
            clear hbs hps hpl hpo
            go_wp2
            go_roundg (k - (i + 1))
            case measure => omega
            case rel => exact ⟨i + 1, by omega, rfl, by go_num, HT8⟩
      · have hlti : ¬ (i : Int) < (k : Int) := by omega
        have hdone : ls.take i = ls := List.take_of_length_le (by rw [HKL.out]; omega)
        have ht := HT.out
        rw [hdone] at ht
        obtain ⟨L, HLL⟩ : ∃ l, Hid (ls.flatMap lnS = l) := ⟨_, rfl⟩
        rw [HLL.out] at ht
        have hft : FitS L := fun y hy => by
          rw [← HLL.out] at hy
          obtain ⟨z, hz, hzy⟩ := List.mem_flatMap.1 hy
          have := lnS_fit z (HOK.out z hz) y hzy
          omega
        obtain ⟨a1, c1, hu7, hp1, _⟩ := ht.px (d := st0) (encSt_len _)
        obtain ⟨n1, HN1⟩ : ∃ n, Hid (L.length = n) := ⟨_, rfl⟩
        rw [HN1.out] at hu7
        subst hu7
        have HGW : Hid (Below G w wr) := hid (HB1.out.trans (ht.below.mono HGB.out))
        have CC : Hid (Calls Tryz.prog 24 #[.slice a1 n1 c1] wr (PostWDs L wr wr.heap.size)) := hid (by
          rw [← HN1.out]
          exact refWriteStatus_any a1 c1 L hp1 hft)
        have HWK : Hid (∀ l2, Sok s l2 → l2 = L) := hid (fun l2 h => by
          rw [← HLL.out]
          exact (sok_doc h HOK.out HSS.out).symm)
        have HLS : Hid (∃ ls, okL ls ∧ s = pktL ls) := hid ⟨ls, HOK.out, HSS.out⟩
        have HTT := hid ht
        clear ht hdone HT hp1 hft
        go_wp2_with fail
        refine CC.out.mono ?_
        rintro e w6 ⟨hb6, ⟨h1, v, rfl, ho⟩ | ⟨h1, rfl⟩⟩
        · obtain ⟨a6, c6, rfl, hp6, _⟩ := own_pb ho
          obtain ⟨S, HSB⟩ : ∃ S, Hid (stB L = S) := ⟨_, rfl⟩
          rw [HSB.out] at hp6
          rw [HSB.out]
          obtain ⟨q, HQ⟩ : ∃ n, Hid (S.length = n) := ⟨_, rfl⟩
          have hgw6 : Below G w w6 := HGW.out.trans (hb6.mono (HGS.out wr HGW.out))
          obtain ⟨X1, HX1⟩ : ∃ X : ByteArray, Hid (⟨S.toArray⟩ = X) := ⟨_, hid rfl⟩
          obtain ⟨X2, HX2⟩ : ∃ X : ByteArray, Hid (⟨s.toArray⟩ = X) := ⟨_, hid rfl⟩
          have hcv1 : (convert 25 9 (.slice a6 q c6)).run Tryz.prog w6 = .ok (.string X1) w6 := by
            have := conv_str hp6
            rw [HQ.out, sV_out, HX1.out] at this
            exact this
          have hcv2 : (convert 25 9 (.slice a m cap)).run Tryz.prog w6 = .ok (.string X2) w6 := by
            have := conv_str (HPB.out _ _ _ HPS.out w6 hgw6)
            rw [HM.out, sV_out, HX2.out] at this
            exact this
          have F := hid (Bx.carry HTT.out hb6)
          have H1 := hid h1
          have HF6 := hid hgw6
          rw [HQ.out]
          clear h1 ho hp6 hb6 hgw6
          by_cases hSs : S = s
          · have HGD : Hid (Sok s L) := hid ⟨H1.out, by rw [HSB.out]; exact hSs.symm⟩
            have hxx : X1 = X2 := by rw [← HX1.out, ← HX2.out, hSs]
            subst hxx
            have F1 : Hid (BSt 59 w w6 G (.slice a1 n1 c1) L) := hid ⟨HF6.out, base_mono F.out.own HGB.out, Nat.le_trans HGB.out F.out.le⟩
            clear hSs
            go_wp2
            refine bodyPost_ret (results_tmp2 Tryz.results53 _ _ _) rfl ?_
            exact ⟨HF6.out, .inl ⟨L, _, HGD.out, rfl, F1.out⟩⟩
          · have HGD : Hid (¬ ∃ l, Sok s l) := hid (fun ⟨l2, h⟩ => by
              have e1 := HWK.out l2 h
              subst e1
              exact hSs (by rw [← HSB.out]; exact h.b.symm))
            have hxx : (X1.toList == X2.toList) = false := by
              rw [← HX1.out, ← HX2.out]
              simp
              exact hSs
            have hxn : (X1.toList != X2.toList) = true := by rw [bne, hxx]; rfl
            clear hSs
            go_wp2
            refine bodyPost_ret (results_tmp2 Tryz.results53 _ _ _) rfl ?_
            exact ⟨HF6.out, .inr (.inl ⟨HGD.out, HLS.out, rfl⟩)⟩
        · have HF6 : Hid (Below G w w6) := hid (HGW.out.trans (hb6.mono (HGS.out wr HGW.out)))
          have HGD : Hid (¬ ∃ l, Sok s l) := hid (fun ⟨l2, h⟩ => by
            have e1 := HWK.out l2 h
            subst e1
            exact h1 h.ok)
          clear h1 hb6
          go_wp2
          refine bodyPost_ret (results_tmp2 Tryz.results53 _ _ _) rfl ?_
          exact ⟨HF6.out, .inr (.inl ⟨HGD.out, HLS.out, rfl⟩)⟩
  · have HNO := hid hno
    have HB1 : Hid (Below G w w1) := hid (by rw [← HG.out]; exact hb1)
    clear hno hb1
    go_wp2
    refine bodyPost_ret (results_tmp2 Tryz.results53 _ _ _) rfl ?_
    exact ⟨HB1.out, .inr (.inr ⟨HNO.out, rfl⟩)⟩
end Go.Proofs.YtijeogdnjeamaaaGreatDoor
namespace Go.Proofs.YtijeogdnjeamaaaGreatDoor
open Go.RowKit
set_option linter.unusedVariables false
set_option linter.unusedSimpArgs false
theorem nums_b (s : Str) : IsB (nums s) := by
  intro x hx
  obtain ⟨y, _, rfl⟩ := List.mem_map.1 hx
  have := y.toNat_lt
  omega
end Go.Proofs.YtijeogdnjeamaaaGreatDoor
