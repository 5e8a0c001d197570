import Derived.Test.YtijeogdnjeamaaaGreatDoorQp14
namespace Go.Proofs.YtijeogdnjeamaaaGreatDoor
open Go.RowKit
set_option linter.unusedVariables false
set_option linter.unusedSimpArgs false
theorem run_b99 (A : Str) (a b : List Int) (ha : a.length = 20) (hb : b.length = 20) (w : World) : (Instr.build 99 #[(0, .string ⟨A.toArray⟩), (1, idV a), (2, idV b)]).run Tryz.prog w = .ok (.agg (encCh (A, (a, b))).toArray) w := by
  obtain ⟨a0, a1, a2, a3, a4, a5, a6, a7, a8, a9, a10, a11, a12, a13, a14, a15, a16, a17, a18, a19, rfl⟩ := list20 a ha
  obtain ⟨b0, b1, b2, b3, b4, b5, b6, b7, b8, b9, b10, b11, b12, b13, b14, b15, b16, b17, b18, b19, rfl⟩ := list20 b hb
  kernel_rfl
theorem info99 : (Tryz.prog.info? 99).map (fun i => (i.zero, i.size, i.bytes)) = some (some (.agg (encCh zch).toArray), 41, 56) := by kernel_rfl
theorem run_b50 (x : Chg) (h : IdW x.2.1 ∧ IdW x.2.2) (w : World) : (Instr.buildSlice 50 1 #[(0, chV x)]).run Tryz.prog w = .ok (.slice (some ⟨w.heap.size, 0, none⟩) 1 1) (w.alloc (.cells (encCh x).toArray 99)) := by
  obtain ⟨i, hq, hz, hs, _⟩ := info_parts info99
  refine run_buildSlice w 50 99 1 _ (encCh x).toArray i _ Tryz.underlying50 hq hz (by rw [hs]; decide) (by rw [hs]; decide) ?_
  rw [hs]
  obtain ⟨A, a, b⟩ := x
  obtain ⟨a0, a1, a2, a3, a4, a5, a6, a7, a8, a9, a10, a11, a12, a13, a14, a15, a16, a17, a18, a19, rfl⟩ := list20 a h.1.1
  obtain ⟨b0, b1, b2, b3, b4, b5, b6, b7, b8, b9, b10, b11, b12, b13, b14, b15, b16, b17, b18, b19, rfl⟩ := list20 b h.2.1
  kernel_rfl
theorem exec_bd3 {P : Program} {o : Oper} {a : Act} {w w' : World} (t : Nat) (x y z : Operand) (ho : o.op = .build t #[(0, x), (1, y), (2, z)]) (u1 u2 u3 v : Value) (h1 : a.eval x = u1) (h2 : a.eval y = u2) (h3 : a.eval z = u3) (hr : (Instr.build t #[(0, u1), (1, u2), (2, u3)]).run P w = .ok v w') : (execOp a.eval o).run P w = .ok (.value v) w' := by
  unfold execOp
  simp [ho, h1, h2, h3, hr, Result.andThen]
theorem step_app50 {w w0 : World} {ops : Array Oper} {o : Oper} {a : Act} {KK : Act → World → Prop} {Q : Exit → Act → World → Prop} {E : Prop} (hg : o.guard = none) (s x : Operand) (ho : o.op = .call { callee := .builtin .append, args := #[s, x], argTypes := #[50, 50] }) (B : Nat) (v : Value) (l : List Chg) (hs : a.eval s = v) (h : BCh 99 w0 w B v l)
    (ax : Option Addr) (cx : Nat) (m : List Chg) (hx : a.eval x = .slice ax m.length cx) (hP : PCh w ax cx m) (hw : IdC m) (hl : l.length + m.length ≤ 30000) (hK : ∀ v' w', BCh 99 w0 w' B v' (l ++ m) → w.grownBy w' v.ownBlock → KK (a.put o.dst v') w') :
    if Region.wanted o (yielded ops a.tmps) = true then Oper.wp Tryz.prog o a w KK Q else E := by
  obtain ⟨v', w', hr, hb, hg'⟩ := exec_bx_sl (enc := encCh) (k := 41) (d := ch0) s x 50 99 Tryz.underlying50 info99 rfl (by decide) (by decide) encCh_one ho B v l hs h ax cx m hx hP (encCh_ln hw) hl
  exact step_exec hg v' hr (hK v' w' hb hg')
theorem Tryz.results47 : Tryz.f47.results = #[.tmp 2, .tmp 3, .tmp 4] := by kernel_rfl
def PostRDc (s : Str) (w : World) (G : Nat) (e : Ending) (w' : World) : Prop :=
  Below G w w' ∧ ((∃ l p v aa cc, Cok s l p ∧ e = .returned (.tuple #[v, .slice aa p.length cc, .int .i64 0]) ∧ BCh 99 w w' G v l ∧ PB w' aa cc p) ∨ ((¬ ∃ l p, Cok s l p) ∧ (∃ ls r, Flu s ls r) ∧ e = .returned (.tuple #[.slice none 0 0, .slice none 0 0, .int .i64 111])) ∨ ((¬ ∃ ls r, Flu s ls r) ∧ e = .returned (.tuple #[.slice none 0 0, .slice none 0 0, .int .i64 110])))
structure Q13 (wb P P2 : Nat) (X : ByteArray) (O M : List Value) (W : World) : Prop where
  c0 : W.cell? ⟨wb, 2, none⟩ = some (.string X)
  r1 : W.rangeAt P 0 O
  r2 : W.rangeAt P2 0 M
set_option maxRecDepth 20000 in
set_option maxHeartbeats 8000000 in
theorem refReadPush_any {w : World} (a : Option Addr) (cap : Nat) (s : Str) (hP : PB w a cap s) (hl : s.length ≤ 20000) :
    Calls Tryz.prog 47 #[.slice a s.length cap] w (PostRDc s w w.heap.size) := by
  obtain ⟨G, HG⟩ : ∃ n, Hid (w.heap.size = n) := ⟨_, rfl⟩
  obtain ⟨m, HM⟩ : ∃ n, Hid (s.length = n) := ⟨_, rfl⟩
  have hm2 : m ≤ 20000 := by rw [← HM.out]; exact hl
  have HPB : Hid (∀ (aa : Option Addr) (cc : Nat) (r : Str), PB w aa cc r → ∀ W, Below G w W → PB W aa cc r) := hid (fun aa cc r h W hW => h.below (by rw [HG.out]; exact hW))
  have HPS := hid hP
  have HGS : Hid (∀ X, Below G w X → G ≤ X.heap.size) := hid (fun X hX => by have := hX.size; have := HG.out; omega)
  have S0 : Hid (BCh 99 w w G (.slice none 0 0) (([] : List Str).flatMap lnC)) := hid (bx_nil 99 w G (by rw [HG.out]; exact Nat.le_refl _))
  obtain ⟨z2, HZ2⟩ : ∃ z : Array Value, Hid (z = (row .u8 z20).toArray) := ⟨_, hid rfl⟩
  have hz2s : z2.size = 20 := by rw [HZ2.out]; rfl
  have hz67 : ∀ w : World, (zeroValue 67).run Tryz.prog w = .ok (.agg z2) w := fun w => by rw [HZ2.out]; exact zero67 w
  rw [HM.out, HG.out]
  clear hP hl
  go_enter Tryz.func47, Tryz.ntmps47
  go_wp2_with fail
  go_loopg [5, 6] m (fun gg lv rv wr => ∃ (aa : Option Addr) (k cc : Nat) (r : Str) (dn : List Str), rv = .slice aa k cc ∧ k = gg ∧ Hid (r.length = k) ∧ Hid (PB w aa cc r) ∧ Hid (s = pktL dn ++ r) ∧ Hid (okL dn) ∧ Hid (∀ x ∈ dn, x ≠ []) ∧ Hid (BCh 99 w wr G lv (dn.flatMap lnC)))
  case atStart => exact ⟨a, m, cap, s, [], rfl, rfl, HM, HPS, hid rfl, hid (fun x hx => by simp at hx), hid (fun x hx => by simp at hx), S0⟩
  case round =>
    obtain ⟨aa, k, cc, r, dn, rfl, hk, HRL, HPR, HE, HOK, HNE, HT⟩ := hrel
    have HKG : Hid (k = gk) := hid hk
    have HCT : Hid (dn.length * 4 + k ≤ m) := hid (by
      have h1 := congrArg List.length HE.out
      rw [List.length_append, HM.out, HRL.out] at h1
      have := pktL_cnt dn
      omega)
    have hkm : k ≤ m := by have := HCT.out; omega
    have HBR : Hid (Below G w wr) := hid HT.out.below
    have CN : Hid (Calls Tryz.prog 84 #[.slice aa k cc] wr (PostNx aa cc r wr)) := hid (by
      have := next_any aa cc r (HPB.out _ _ _ HPR.out wr HBR.out) (by rw [HRL.out]; omega)
      rw [HRL.out] at this
      exact this)
    clear hk
    go_wp2_with fail
    refine CN.out.mono ?_
    rintro e w1 ⟨hb1, ⟨n, hf, rfl⟩ | ⟨hno, rfl⟩⟩
    · have HT1 : Hid (BCh 99 w w1 G u5 (dn.flatMap lnC)) := hid (Bx.carry HT.out hb1)
      obtain ⟨hpk, hsx⟩ := fst_pkt hf
      have hfl := hf.2.1
      have hf1 := hf.1
      rw [HRL.out] at hfl
      obtain ⟨x, HX⟩ : ∃ x, Hid ((r.drop 4).take n = x) := ⟨_, rfl⟩
      rw [HX.out] at hpk hsx
      have HXL := hid hsx
      obtain ⟨r2, HR2⟩ : ∃ x, Hid (r.drop (4 + n) = x) := ⟨_, rfl⟩
      rw [HR2.out] at hpk
      have HEE : Hid (s = pktL (dn ++ [x]) ++ r2) := hid (by
        rw [pktL_app, List.append_assoc, show pktL [x] = pkt x by simp [pktL], ← hpk]
        exact HE.out)
      obtain ⟨A4, HA4⟩ : ∃ y, Hid (adX 1 aa cc 4 = y) := ⟨_, rfl⟩
      obtain ⟨A2, HA2⟩ : ∃ y, Hid (adX 1 aa cc (4 + n) = y) := ⟨_, rfl⟩
      obtain ⟨c2, HC2⟩ : ∃ y, Hid (cc - (4 + n) = y) := ⟨_, rfl⟩
      obtain ⟨k2, HK2⟩ : ∃ y : Nat, Hid (k - (4 + n) = y) := ⟨_, rfl⟩
      obtain ⟨c4, HC4⟩ : ∃ y, Hid (cc - 4 = y) := ⟨_, rfl⟩
      have HRL2 : Hid (r2.length = k2) := hid (by rw [← HR2.out, List.length_drop, HRL.out, HK2.out])
      have HPX : Hid (PB w A4 c4 x) := hid (by
        have := Px.mid HPR.out 4 (4 + n) (by omega) (by rw [HRL.out]; omega)
        rw [HA4.out, HC4.out, show 4 + n - 4 = n by omega, HX.out] at this
        exact this)
      have HPR2 : Hid (PB w A2 c2 r2) := hid (by
        have := Px.from HPR.out (4 + n) (by rw [HRL.out]; omega)
        rw [HA2.out, HC2.out, HR2.out] at this
        exact this)
      have hkl : k2 < k := by have := HK2.out; omega
      rw [HA4.out, HA2.out, HC2.out, HRL.out, HK2.out, HC4.out]
      clear hf hb1 hpk hsx
      by_cases h0 : n = 0
      · have hn0 : ((n : Int) == 0) = true := by subst h0; rfl
        have hn1 : (n : Int) = 0 := by omega
        have HFL : Hid (Flu s dn r2) := hid ⟨HOK.out, HNE.out, by
          have h1 : x = [] := List.length_eq_zero_iff.1 (by rw [HXL.out]; exact h0)
          have h2 := HEE.out
          rw [h1] at h2
          exact h2⟩
        obtain ⟨L, HLL⟩ : ∃ l, Hid (dn.flatMap lnC = l) := ⟨_, rfl⟩
        have HIC : Hid (IdC L) := hid (by rw [← HLL.out]; exact lnCL_wf dn)
        have ht := HT1.out
        rw [HLL.out] at ht
        have hft : FitC L := fun y hy => by
          have h1 := HIC.out y hy
          rw [← HLL.out] at hy
          obtain ⟨z, hz, hzy⟩ := List.mem_flatMap.1 hy
          have h2 := (lnC_mem hzy).2.2
          have h3 := HOK.out z hz
          exact ⟨by omega, h1⟩
        obtain ⟨a1, c1, hu5, hp1, _⟩ := ht.px (d := ch0) (encCh_ln HIC.out)
        obtain ⟨n1, HN1⟩ : ∃ n, Hid (L.length = n) := ⟨_, rfl⟩
        rw [HN1.out] at hu5
        subst hu5
        have HGW : Hid (Below G w w1) := hid ht.below
        have CC : Hid (Calls Tryz.prog 21 #[.slice a1 n1 c1, .slice A2 k2 c2] w1 (PostWDc L r2 w1 w1.heap.size)) := hid (by
          rw [← HN1.out, ← HRL2.out]
          exact refWritePush_any a1 c1 L hp1 hft A2 c2 r2 (HPB.out _ _ _ HPR2.out w1 HGW.out) (by rw [HRL2.out]; omega))
        have HWK : Hid (∀ l p, Cok s l p → l = L ∧ p = r2) := hid (fun l p h => ⟨by rw [← HLL.out]; exact (cok_doc HFL.out h).symm, cok_r HFL.out h⟩)
        have HEX : Hid (∃ ls r, Flu s ls r) := hid ⟨_, _, HFL.out⟩
        have HTT := hid ht
        clear ht hp1 hft h0
        go_wp2_with fail
        refine CC.out.mono ?_
        rintro e w6 ⟨hb6, ⟨h1, v, rfl, ho⟩ | ⟨h1, rfl⟩⟩
        · obtain ⟨a6, c6, rfl, hp6, _⟩ := own_pb ho
          obtain ⟨S, HSB⟩ : ∃ S, Hid (chB L ++ r2 = S) := ⟨_, rfl⟩
          rw [HSB.out] at hp6
          rw [HSB.out]
          obtain ⟨q, HQ⟩ : ∃ n, Hid (S.length = n) := ⟨_, rfl⟩
          have hgw6 : Below G w w6 := HGW.out.trans (hb6.mono (HGS.out w1 HGW.out))
          obtain ⟨X1, HX1⟩ : ∃ X : ByteArray, Hid (⟨S.toArray⟩ = X) := ⟨_, hid rfl⟩
          obtain ⟨X2, HX2⟩ : ∃ X : ByteArray, Hid (⟨s.toArray⟩ = X) := ⟨_, hid rfl⟩
          have hcv1 : (convert 25 9 (.slice a6 q c6)).run Tryz.prog w6 = .ok (.string X1) w6 := by
            have := conv_str hp6
            rw [HQ.out, sV_out, HX1.out] at this
            exact this
          have hcv2 : (convert 25 9 (.slice a m cap)).run Tryz.prog w6 = .ok (.string X2) w6 := by
            have := conv_str (HPB.out _ _ _ HPS.out w6 hgw6)
            rw [HM.out, sV_out, HX2.out] at this
            exact this
          have F := hid (Bx.carry HTT.out hb6)
          have H1 := hid h1
          have HF6 := hid hgw6
          rw [HQ.out]
          clear h1 ho hp6 hb6 hgw6
          by_cases hSs : S = s
          · have HGD : Hid (Cok s L r2) := hid ⟨H1.out, HIC.out, by rw [HSB.out]; exact hSs.symm⟩
            have hxx : X1 = X2 := by rw [← HX1.out, ← HX2.out, hSs]
            subst hxx
            have HPF : Hid (PB w6 A2 c2 r2) := hid (HPB.out _ _ _ HPR2.out w6 HF6.out)
            clear hSs
            go_wp2
            refine bodyPost_ret (results_tmp3 Tryz.results47 _ _) rfl ?_
            exact ⟨HF6.out, .inl ⟨L, r2, _, A2, c2, HGD.out, by rw [HRL2.out]; rfl, F.out, HPF.out⟩⟩
          · have HGD : Hid (¬ ∃ l p, Cok s l p) := hid (fun ⟨l2, p2, h⟩ => by
              obtain ⟨e1, e2⟩ := HWK.out l2 p2 h
              subst e1 e2
              exact hSs (by rw [← HSB.out]; exact h.b.symm))
            have hxx : (X1.toList == X2.toList) = false := by
              rw [← HX1.out, ← HX2.out]
              simp
              exact hSs
            have hxn : (X1.toList != X2.toList) = true := by rw [bne, hxx]; rfl
            clear hSs
            go_wp2
            refine bodyPost_ret (results_tmp3 Tryz.results47 _ _) rfl ?_
            exact ⟨HF6.out, .inr (.inl ⟨HGD.out, HEX.out, rfl⟩)⟩
        · have HF6 : Hid (Below G w w6) := hid (HGW.out.trans (hb6.mono (HGS.out w1 HGW.out)))
          have HGD : Hid (¬ ∃ l p, Cok s l p) := hid (fun ⟨l2, p2, h⟩ => by
            obtain ⟨e1, e2⟩ := HWK.out l2 p2 h
            subst e1 e2
            exact h1 h.ok)
          clear h1 hb6
          go_wp2
          refine bodyPost_ret (results_tmp3 Tryz.results47 _ _) rfl ?_
          exact ⟨HF6.out, .inr (.inl ⟨HGD.out, HEX.out, rfl⟩)⟩
      · have hn0 : ((n : Int) == 0) = false := by simp; omega
        have hn1 : ¬ (n : Int) = 0 := by omega
        have HOK2 : Hid (okL (dn ++ [x])) := hid (fun y hy => (List.mem_append.1 hy).elim (HOK.out y) (fun h => by rw [List.mem_singleton.1 h, HXL.out]; exact hf1))
        have HNE2 : Hid (∀ y ∈ dn ++ [x], y ≠ []) := hid (fun y hy => (List.mem_append.1 hy).elim (HNE.out y) (fun h => by
          rw [List.mem_singleton.1 h]
          intro e
          have := HXL.out
          rw [e] at this
          exact h0 this.symm))
        have HFM : Hid ((dn ++ [x]).flatMap lnC = dn.flatMap lnC ++ lnC x) := hid (by rw [List.flatMap_append]; simp)
        have HCW : Hid ((dn.flatMap lnC).length ≤ 20000) := hid (by have := lnCL_cnt dn; have := HCT.out; omega)
        have CW : Hid (Calls Tryz.prog 69 #[.slice A4 n c4] w1 fun e w' => ∃ v, e = .returned v ∧ BS w1 w' w1.heap.size v (wdsA [] x)) := hid (by
          have := words_any A4 c4 x (HPB.out _ _ _ HPX.out w1 HT1.out.below) (by rw [HXL.out]; exact hf1)
          rw [HXL.out] at this
          exact this)
        clear h0
        go_wp2_with fail
        refine CW.out.mono ?_
        rintro e w2 ⟨v2, rfl, hbs⟩
        obtain ⟨wa, wc, rfl, hps, hpl, hpo⟩ := hbs.px (d := []) (encS_len _)
        have HT2 : Hid (BCh 99 w w2 G u5 (dn.flatMap lnC)) := hid (Bx.carry HT1.out hbs.below)
        obtain ⟨n2, HN2⟩ : ∃ n, Hid ((wdsA [] x).length = n) := ⟨_, rfl⟩
        rw [HN2.out]
        by_cases h3 : n2 = 3
        · obtain ⟨p, q2, nm, hpq⟩ := three_of _ (HN2.out.trans h3)
          rw [hpq] at hps
          have hxl1 : x.length ≤ 1000 := by rw [HXL.out]; exact hf1
          have hlp : p.length ≤ 1000 := by
            have := wds_len x [] p (by rw [hpq]; simp)
            simp at this
            omega
          have hlq : q2.length ≤ 1000 := by
            have := wds_len x [] q2 (by rw [hpq]; simp)
            simp at this
            omega
          obtain ⟨wb, rfl⟩ : ∃ b, wa = some ⟨b, 0, none⟩ := by
            rcases hpo with h | h
            · obtain ⟨b, off', e1, _⟩ := hps.at_ (by simp)
              rw [h] at e1
              cases e1
            · exact h
          obtain ⟨P0, HP0⟩ : ∃ X : ByteArray, Hid (⟨p.toArray⟩ = X) := ⟨_, hid rfl⟩
          obtain ⟨P1, HP1⟩ : ∃ X : ByteArray, Hid (⟨q2.toArray⟩ = X) := ⟨_, hid rfl⟩
          obtain ⟨X, HXB⟩ : ∃ X : ByteArray, Hid (⟨nm.toArray⟩ = X) := ⟨_, hid rfl⟩
          have k0 : w2.cell? ⟨wb, 0, none⟩ = some (.string P0) := by
            obtain ⟨b', off', e1, _, e3⟩ := hps.at_ (by simp)
            cases e1
            have := e3 0 (by simp) 0 _ rfl
            simpa [sV, HP0.out] using this
          have k1 : w2.cell? ⟨wb, 1, none⟩ = some (.string P1) := by
            obtain ⟨b', off', e1, _, e3⟩ := hps.at_ (by simp)
            cases e1
            have := e3 1 (by simp) 0 _ rfl
            simpa [sV, HP1.out] using this
          have k2' : w2.cell? ⟨wb, 2, none⟩ = some (.string X) := by
            obtain ⟨b', off', e1, _, e3⟩ := hps.at_ (by simp)
            cases e1
            have := e3 2 (by simp) 0 _ rfl
            simpa [sV, HXB.out] using this
          have HWBL : Hid (w1.heap.size ≤ wb) := hid (hpl _ rfl).1
          have HW12 : Hid (w1.heap.size ≤ w2.heap.size) := hid hbs.below.size
          have HK1 := hid k1
          have HKX := hid k2'
          have HWQ : Hid (wdsA [] x = [p, q2, nm]) := hid hpq
          have CP : Hid (∀ W, Calls Tryz.prog 70 #[.string P0] W (PostPd p W)) := hid (fun W => by rw [← HP0.out]; exact parseD p (by omega) W)
          have CQ : Hid (∀ W, Calls Tryz.prog 70 #[.string P1] W (PostPd q2 W)) := hid (fun W => by rw [← HP1.out]; exact parseD q2 (by omega) W)
          rw [h3]
          clear hbs hps hpl hpo hpq hlp hlq h3 k1 k2' hxl1
          go_wp2_with fail
          refine (CP.out w2).mono ?_
          rintro e w3 ⟨hb3, ho⟩
          have HB3 := hid hb3
          clear hb3
          have hid1 : ∃ (x : List Int) (ev : Bool), IdW x ∧ e = .returned (.tuple #[idV x, .bool ev]) ∧ ((prs p = some x ∧ ev = true) ∨ (prs p = none ∧ ev = false)) := by
            rcases ho with ⟨x, hx, rfl⟩ | ⟨hx, rfl⟩
            · exact ⟨x, _, (prs_wf hx).1, rfl, .inl ⟨hx, rfl⟩⟩
            · exact ⟨z20, _, zch_wf.1, rfl, .inr ⟨hx, rfl⟩⟩
          clear ho
          obtain ⟨x1, ev1, hw1, rfl, hev1⟩ := hid1
          obtain ⟨Y, HY⟩ : ∃ R : List Value, Hid (row .u8 x1 = R) := ⟨_, rfl⟩
          have HYL : Hid (Y.length = 20) := hid (by rw [← HY.out, row_len, hw1.1])
          have hiY : (Tryz.prog.info? 67).map (·.size) = some Y.length := by rw [HYL.out]; exact size67
          obtain ⟨P, HPP⟩ : ∃ P, Hid (w3.heap.size = P) := ⟨_, rfl⟩
          obtain ⟨w4, hw4, ht4, hb4, hr4⟩ := st_new w3 67 z2 Y (by rw [HYL.out, hz2s])
          obtain ⟨wv, HWV⟩ : ∃ W, Hid (w3.alloc (.cells z2 67) = W) := ⟨_, rfl⟩
          rw [HWV.out, HPP.out] at hw4 ht4
          rw [HPP.out] at hr4
          have HW4 := hid hw4
          have T1 := hid ht4
          have T2 : Hid ((Tryz.prog.info? 67).map (·.size) = some Y.toArray.size) := hid (by rw [List.size_toArray]; exact hiY)
          have T3 : Hid (Y.toArray.all (·.oneCell') = true) := hid (by rw [← HY.out]; exact all_oneCell_toArray (row_oneC _))
          have R4 := hid hr4
          have HB4 : Hid (Below w2.heap.size w2 w4) := hid (HB3.out.trans (hb4.mono HB3.out.size))
          have k1 : w4.cell? ⟨wb, 1, none⟩ = some (.string P1) := (HB4.out.cell (p := ⟨wb, 1, none⟩) (cell_lt HK1.out)).trans HK1.out
          have al2 : w3.alloc (.cells z2 67) = wv := HWV.out
          have hs2 : w3.heap.size = P := HPP.out
          have HXW := hid hw1
          have HEV1 := hid hev1
          unfold idV
          rw [HY.out]
          clear hw4 ht4 hb4 hr4 hw1 hev1 k0
          go_wp2_with (first
            | (refine wpList_store_mid rfl 67 _ _ rfl P 0 Y.toArray rfl rfl T1.out T2.out T3.out ?_; rw [HW4.out])
            | fail)
          clear al2 hs2 k1
          refine (CQ.out w4).mono ?_
          rintro e w5 ⟨hb5, ho⟩
          have HB5 : Hid (Below w2.heap.size w2 w5) := hid (HB4.out.trans (hb5.mono HB4.out.size))
          have R5 : Hid (w5.rangeAt P 0 Y) := hid (fun j v hv => (hb5.cell (p := ⟨P, 0 + j, none⟩) (cell_lt (R4.out j v hv))).trans (R4.out j v hv))
          clear hb5
          have hid2 : ∃ (x : List Int) (ev : Bool), IdW x ∧ e = .returned (.tuple #[idV x, .bool ev]) ∧ ((prs q2 = some x ∧ ev = true) ∨ (prs q2 = none ∧ ev = false)) := by
            rcases ho with ⟨x, hx, rfl⟩ | ⟨hx, rfl⟩
            · exact ⟨x, _, (prs_wf hx).1, rfl, .inl ⟨hx, rfl⟩⟩
            · exact ⟨z20, _, zch_wf.1, rfl, .inr ⟨hx, rfl⟩⟩
          clear ho
          obtain ⟨x2, ev2, hw2, rfl, hev2⟩ := hid2
          obtain ⟨Y2, HY2⟩ : ∃ R : List Value, Hid (row .u8 x2 = R) := ⟨_, rfl⟩
          have HYL2 : Hid (Y2.length = 20) := hid (by rw [← HY2.out, row_len, hw2.1])
          have hiY2 : (Tryz.prog.info? 67).map (·.size) = some Y2.length := by rw [HYL2.out]; exact size67
          obtain ⟨P2, HPP2⟩ : ∃ P, Hid (w5.heap.size = P) := ⟨_, rfl⟩
          obtain ⟨w6, hw6, ht6, hb6, hr6⟩ := st_new w5 67 z2 Y2 (by rw [HYL2.out, hz2s])
          obtain ⟨wu, HWU⟩ : ∃ W, Hid (w5.alloc (.cells z2 67) = W) := ⟨_, rfl⟩
          rw [HWU.out, HPP2.out] at hw6 ht6
          rw [HPP2.out] at hr6
          have HW6 := hid hw6
          have U1 := hid ht6
          have U2 : Hid ((Tryz.prog.info? 67).map (·.size) = some Y2.toArray.size) := hid (by rw [List.size_toArray]; exact hiY2)
          have U3 : Hid (Y2.toArray.all (·.oneCell') = true) := hid (by rw [← HY2.out]; exact all_oneCell_toArray (row_oneC _))
          have R6b := hid hr6
          have HB6 : Hid (Below w2.heap.size w2 w6) := hid (HB5.out.trans (hb6.mono HB5.out.size))
          have R6a : Hid (w6.rangeAt P 0 Y) := hid (fun j v hv => (hb6.cell (p := ⟨P, 0 + j, none⟩) (cell_lt (R5.out j v hv))).trans (R5.out j v hv))
          have HT6 : Hid (BCh 99 w w6 G u5 (dn.flatMap lnC)) := hid (Bx.carry HT2.out HB6.out)
          have al2 : w5.alloc (.cells z2 67) = wu := HWU.out
          have hs2 : w5.heap.size = P2 := HPP2.out
          have HX2 := hid hw2
          unfold idV
          rw [HY2.out]
          clear hw6 ht6 hb6 hr6 hw2
          have hev1 := HEV1.out
          rcases hev1 with ⟨hp1, rfl⟩ | ⟨hp1, rfl⟩
          · rcases hev2 with ⟨hp2, rfl⟩ | ⟨hp2, rfl⟩
            · have HLN : Hid (lnC x = [(nm, (x1, x2))]) := hid (lnC_yes HWQ.out hp1 hp2)
              have HQQ : Hid (∀ W, Below w6.heap.size w6 W → Q13 wb P P2 X Y Y2 W) := hid (fun W hW => by
                have hc6 : w6.cell? ⟨wb, 2, none⟩ = some (.string X) := (HB6.out.cell (p := ⟨wb, 2, none⟩) (cell_lt HKX.out)).trans HKX.out
                exact ⟨(hW.cell (p := ⟨wb, 2, none⟩) (cell_lt hc6)).trans hc6, fun j v hv => (hW.cell (p := ⟨P, 0 + j, none⟩) (cell_lt (R6a.out j v hv))).trans (R6a.out j v hv), fun j v hv => (hW.cell (p := ⟨P2, 0 + j, none⟩) (cell_lt (R6b.out j v hv))).trans (R6b.out j v hv)⟩)
              have HOB : Hid (∀ q, u5.ownBlock = some q → q < w1.heap.size) := hid (fun q hq => (own_lt HT1.out.own q hq).2)
              have HWB : Hid (w1.heap.size ≤ wb ∧ w1.heap.size ≤ P ∧ w1.heap.size ≤ P2) := hid ⟨HWBL.out, by rw [← HPP.out]; exact Nat.le_trans HW12.out HB3.out.size, by rw [← HPP2.out]; exact Nat.le_trans HW12.out HB5.out.size⟩
              have HQG : Hid (∀ W W', Below w6.heap.size w6 W → W.grownBy W' u5.ownBlock → Q13 wb P P2 X Y Y2 W') := hid (fun W W' hW hg => by
                have h := HQQ.out W hW
                have hw := HWB.out
                exact ⟨hg.cell h.c0 (fun e => by have := HOB.out _ e.symm; simp at this; omega), fun j v hv => hg.cell (h.r1 j v hv) (fun e => by have := HOB.out _ e.symm; simp at this; omega), fun j v hv => hg.cell (h.r2 j v hv) (fun e => by have := HOB.out _ e.symm; simp at this; omega)⟩)
              have HDB : Hid (Below w6.heap.size w6 w6.drew) := hid ⟨rfl, rfl, rfl, Nat.le_refl _, fun _ _ => rfl⟩
              have HTd : Hid (BCh 99 w w6.drew G u5 (dn.flatMap lnC)) := hid (Bx.carry HT6.out HDB.out)
              obtain ⟨V, HV⟩ : ∃ R : List Value, Hid (encCh (nm, (x1, x2)) = R) := ⟨_, rfl⟩
              have hbd : ∀ W : World, (Instr.build 99 #[(0, .string X), (1, .agg Y.toArray), (2, .agg Y2.toArray)]).run Tryz.prog W = .ok (.agg V.toArray) W := fun W => by
                rw [← HV.out, ← HXB.out, ← HY.out, ← HY2.out]
                exact run_b99 nm x1 x2 HXW.out.1 HX2.out.1 W
              clear hp1 hp2
              go_wp2_with (first
                | (refine wpList_store_mid rfl 67 _ _ rfl P2 0 Y2.toArray rfl rfl U1.out U2.out U3.out ?_; rw [HW6.out])
                | fail)
              clear al2 hs2
              refine wp_region_held_drew (S := Q13 wb P P2 X Y Y2) (by kernel_rfl) (HQQ.out _ HDB.out) (fun hHeld => ?_)
              generalize w6.drew = u0 at hHeld HTd HDB ⊢
              refine takeL (i := 0) (v := ?_) rfl (by kernel_rfl) (by kernel_rfl) (by kernel_rfl) (fun _ _ _ h => h) (Or.inl ⟨by rfl, ?_⟩) hHeld ?_
              rotate_left
              · rintro w' ⟨c0, r1, r2⟩; go_simp; rfl
              try simp only [Act.put, List.setIfInBounds_toArray, List.set_cons_zero, List.set_cons_succ]
              refine takeL (i := 1) (v := ?_) rfl (by kernel_rfl) (by kernel_rfl) (by kernel_rfl) (fun _ _ _ h => h) (Or.inl ⟨by rfl, ?_⟩) hHeld ?_
              rotate_left
              · rintro w' ⟨c0, r1, r2⟩; go_simp; rfl
              try simp only [Act.put, List.setIfInBounds_toArray, List.set_cons_zero, List.set_cons_succ]
              refine takeL (i := 2) (v := ?_) rfl (by kernel_rfl) (by kernel_rfl) (by kernel_rfl) (fun _ _ _ h => h) (Or.inl ⟨by rfl, ?_⟩) hHeld ?_
              rotate_left
              · rintro w' ⟨c0, r1, r2⟩; go_simp; rfl
              try simp only [Act.put, List.setIfInBounds_toArray, List.set_cons_zero, List.set_cons_succ]
              refine takeL (i := 3) (v := ?_) rfl (by kernel_rfl) (by kernel_rfl) (by kernel_rfl) (fun _ _ _ h => h) (Or.inl ⟨by rfl, ?_⟩) hHeld ?_
              rotate_left
              · rintro w' ⟨c0, r1, r2⟩; go_simp; rfl
              try simp only [Act.put, List.setIfInBounds_toArray, List.set_cons_zero, List.set_cons_succ]
              refine takeL (i := 4) (v := .agg Y.toArray) rfl (by kernel_rfl) (by kernel_rfl) (by kernel_rfl) (fun _ _ _ h => h) (yieldsIf_load_mid (by kernel_rfl) 67 _ rfl P (0) (by rfl) Y _ (fun w' h => h.r1) Tryz.underlying67 rfl hiY) hHeld ?_
              try simp only [Act.put, List.setIfInBounds_toArray, List.set_cons_zero, List.set_cons_succ]
              refine takeL (i := 5) (v := .agg Y2.toArray) rfl (by kernel_rfl) (by kernel_rfl) (by kernel_rfl) (fun _ _ _ h => h) (yieldsIf_load_mid (by kernel_rfl) 67 _ rfl P2 (0) (by rfl) Y2 _ (fun w' h => h.r2) Tryz.underlying67 rfl hiY2) hHeld ?_
              try simp only [Act.put, List.setIfInBounds_toArray, List.set_cons_zero, List.set_cons_succ]
              refine takeL (i := 6) (v := .agg V.toArray) rfl (by kernel_rfl) (by kernel_rfl) (by kernel_rfl) (fun _ _ _ h => h) (Or.inl ⟨by rfl, ?_⟩) hHeld ?_
              · rintro w' ⟨c0, r1, r2⟩; exact exec_bd3 99 (.tmp 56) (.tmp 57) (.tmp 58) (by rfl) _ _ _ _ (by rfl) (by rfl) (by rfl) (hbd w')
              try simp only [Act.put, List.setIfInBounds_toArray, List.set_cons_zero, List.set_cons_succ]
              obtain ⟨u1, HU1⟩ : ∃ u, Hid (u0.alloc (.cells V.toArray 99) = u) := ⟨_, rfl⟩
              obtain ⟨K, HKK⟩ : ∃ u, Hid (u0.heap.size = u) := ⟨_, rfl⟩
              have HT7 : Hid (BCh 99 w u1 G u5 (dn.flatMap lnC)) := hid (by rw [← HU1.out]; exact Bx.alloc HTd.out _)
              have HB7 : Hid (Below w6.heap.size w6 u1) := hid (by rw [← HU1.out]; exact HDB.out.alloc (by have := HDB.out.size; omega) _)
              have HP8 : Hid (PCh u1 (some ⟨K, 0, none⟩) 1 [(nm, (x1, x2))]) := hid (by
                rw [← HU1.out, ← HKK.out, ← HV.out]
                exact pch_one u0 (nm, (x1, x2)) 99)
              have HI8 : Hid (IdC [(nm, (x1, x2))]) := hid (fun y hy => by rw [List.mem_singleton.1 hy]; exact ⟨HXW.out, HX2.out⟩)
              have hbs : (Instr.buildSlice 50 1 #[(0, .agg V.toArray)]).run Tryz.prog u0 = .ok (.slice (some ⟨K, 0, none⟩) 1 1) u1 := by
                rw [← HU1.out, ← HKK.out, ← HV.out]
                exact run_b50 (nm, (x1, x2)) ⟨HXW.out, HX2.out⟩ u0
              refine wpAnyH_ready (rs := [7]) (by kernel_rfl) (by simp) ?_
              refine consL rfl (fun KK hKK => ?_) AllReadyH.nil
              refine step_exec (by rfl) (.slice (some ⟨K, 0, none⟩) 1 1) (w' := u1) (exec_bS1 50 1 (.tmp 59) (by rfl) _ _ (by rfl) hbs) ?_
              refine hKK.out _ _ (HQQ.out _ HB7.out) (fun _ => ?_)
              clear hKK KK hbs
              try simp only [Act.put, List.setIfInBounds_toArray, List.set_cons_zero, List.set_cons_succ]
              refine wpAnyH_ready (rs := [8]) (by kernel_rfl) (by simp) ?_
              refine consL rfl (fun KK hKK => ?_) AllReadyH.nil
              refine step_app50 (by rfl) (.tmp 53) (.tmp 60) (by rfl) G u5 (dn.flatMap lnC) (by rfl) HT7.out (some ⟨K, 0, none⟩) 1 [(nm, (x1, x2))] (by rfl) HP8.out HI8.out (by have := HCW.out; simp only [List.length_cons, List.length_nil]; omega) ?_
              intro v9 u9 hb9 hg9
              have HT9 : Hid (BCh 99 w u9 G v9 ((dn ++ [x]).flatMap lnC)) := hid (by rw [HFM.out, HLN.out]; exact hb9)
              have hHeld2 : Q13 wb P P2 X Y Y2 u9 := HQG.out u1 u9 HB7.out hg9
              clear hb9 hg9
              refine hKK.out _ _ hHeld2 (fun _ => ?_)
              clear hKK KK hHeld
              try simp only [Act.put, List.setIfInBounds_toArray, List.set_cons_zero, List.set_cons_succ]
              refine takeL (i := 9) (v := ?_) rfl (by kernel_rfl) (by kernel_rfl) (by kernel_rfl) (fun _ _ _ h => h) (Or.inl ⟨by rfl, ?_⟩) hHeld2 ?_
              rotate_left
              · rintro w' ⟨c0, r1, r2⟩; go_simp; rfl
              try simp only [Act.put, List.setIfInBounds_toArray, List.set_cons_zero, List.set_cons_succ]
              refine wpAnyH_done (by kernel_rfl) ?_ _
              clear hHeld2
              go_wp2
              go_roundg k2
              case measure => have := HKG.out; omega
              case rel => exact ⟨A2, k2, c2, r2, dn ++ [x], rfl, rfl, HRL2, HPR2, HEE, HOK2, HNE2, HT9⟩
            · have HT9 : Hid (BCh 99 w w6 G u5 ((dn ++ [x]).flatMap lnC)) := hid (by rw [HFM.out, lnC_no2 HWQ.out hp2, List.append_nil]; exact HT6.out)
              clear hp1 hp2
              go_wp2_with (first
                | (refine wpList_store_mid rfl 67 _ _ rfl P2 0 Y2.toArray rfl rfl U1.out U2.out U3.out ?_; rw [HW6.out])
                | fail)
              go_roundg k2
              case measure => have := HKG.out; omega
              case rel => exact ⟨A2, k2, c2, r2, dn ++ [x], rfl, rfl, HRL2, HPR2, HEE, HOK2, HNE2, HT9⟩
          · rcases hev2 with ⟨hp2, rfl⟩ | ⟨hp2, rfl⟩
            · have HT9 : Hid (BCh 99 w w6 G u5 ((dn ++ [x]).flatMap lnC)) := hid (by rw [HFM.out, lnC_no1 HWQ.out hp1, List.append_nil]; exact HT6.out)
              clear hp1 hp2
              go_wp2_with (first
                | (refine wpList_store_mid rfl 67 _ _ rfl P2 0 Y2.toArray rfl rfl U1.out U2.out U3.out ?_; rw [HW6.out])
                | fail)
              go_roundg k2
              case measure => have := HKG.out; omega
              case rel => exact ⟨A2, k2, c2, r2, dn ++ [x], rfl, rfl, HRL2, HPR2, HEE, HOK2, HNE2, HT9⟩
            · have HT9 : Hid (BCh 99 w w6 G u5 ((dn ++ [x]).flatMap lnC)) := hid (by rw [HFM.out, lnC_no1 HWQ.out hp1, List.append_nil]; exact HT6.out)
              clear hp1 hp2
              go_wp2_with (first
                | (refine wpList_store_mid rfl 67 _ _ rfl P2 0 Y2.toArray rfl rfl U1.out U2.out U3.out ?_; rw [HW6.out])
                | fail)
              go_roundg k2
              case measure => have := HKG.out; omega
              case rel => exact ⟨A2, k2, c2, r2, dn ++ [x], rfl, rfl, HRL2, HPR2, HEE, HOK2, HNE2, HT9⟩
        · have h3i : ((n2 : Int) == 3) = false := by simp; omega
          have h3j : ¬ (n2 : Int) = 3 := by omega
          have HT9 : Hid (BCh 99 w w2 G u5 ((dn ++ [x]).flatMap lnC)) := hid (by rw [HFM.out, lnC_not (by rw [HN2.out]; exact h3), List.append_nil]; exact HT2.out)
          clear hbs hps hpl hpo
          go_wp2
          go_roundg k2
          case measure => have := HKG.out; omega
          case rel => exact ⟨A2, k2, c2, r2, dn ++ [x], rfl, rfl, HRL2, HPR2, HEE, HOK2, HNE2, HT9⟩
    · have HB1 : Hid (Below G w w1) := hid (HBR.out.trans (hb1.mono (HGS.out wr HBR.out)))
      have HNO : Hid (¬ ∃ ls r, Flu s ls r) := hid (fl_no HOK.out HNE.out HE.out hno)
      rw [HRL.out]
      clear hb1 hno
      go_wp2
      refine bodyPost_ret (results_tmp3 Tryz.results47 _ _) rfl ?_
      exact ⟨HB1.out, .inr (.inr ⟨HNO.out, rfl⟩)⟩
end Go.Proofs.YtijeogdnjeamaaaGreatDoor
