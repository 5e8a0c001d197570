/- The law 'GraphOrders', walked. -/
import Derived.Test.YtjgjeedablgmeaaDoorGsE
namespace Go.Proofs.YtjgjeedablgmeaaDoor
open Go.RowKit
set_option linter.unusedVariables false
set_option linter.unusedSimpArgs false
/-- The document's nodes. -/
structure Dn (l l' : List Nd) (w : World) (a : Option Addr) (cap : Nat) : Prop where
  ke : KE l l'
  len : l'.length = l.length
  okg : OkG l' ↔ OkG l
  pn : Pn w a cap l'
  wf : ∀ x ∈ l', NdW w x
  few : Few l → l'.length ≤ 40 ∧ ∀ x ∈ l', x.ps.length ≤ 40
theorem Dn.below {l l' : List Nd} {w w' : World} {a : Option Addr} {cap : Nat} (h : Dn l l' w a cap) (hb : Below w.heap.size w w') : Dn l l' w' a cap := ⟨h.ke, h.len, h.okg, h.pn.below hb, fun x hx => (h.wf x hx).below hb, h.few⟩
theorem dn_of {l : List Nd} {w : World} {e : Ending} {w' : World} (h : PostTh l w e w') : ∃ (a : Option Addr) (cap : Nat) (l' : List Nd), e = .returned (.slice a l.length cap) ∧ Dn l l' w' a cap ∧ Below w.heap.size w w' := by
  obtain ⟨v, l', rfl, hbx, hkey, hnd⟩ := h
  have hll : l'.length = l.length := by have := congrArg List.length hkey; rwa [List.length_map, List.length_map] at this
  obtain ⟨a', cap', hve, hpn, _⟩ := hbx.px (d := nd0) (fun x hx => ndV_len x (hnd x hx).id.1)
  rw [hll] at hve
  subst hve
  refine ⟨a', cap', l', rfl, ⟨KE.of_map hkey, hll, ⟨okg_key hkey, okg_key hkey.symm⟩, hpn, hnd, fun hf => ⟨by rw [hll]; exact hf.1, fun x hx => ?_⟩⟩, hbx.below⟩
  have : key x ∈ l.map key := by rw [← hkey]; exact List.mem_map.2 ⟨x, hx, rfl⟩
  obtain ⟨z, hz, e⟩ := List.mem_map.1 this
  have e2 : z.ps = x.ps := congrArg (·.2.1) e
  rw [← e2]; exact hf.2 z hz
theorem sel_key {l l' : List Nd} {F N : List (List Int)} {f f' : Nd → Bool} (h : KE l l') (hf : Sel l F N f) (hf' : Sel l' F N f') (x y : Nd) (e : key x = key y) : f x = f' y := by
  rw [Bool.eq_iff_iff, hf x, hf' y, h.rch, h.rch, key_id' e]
/-- Both orders are one. -/
theorem ord_one {l l' : List Nd} {F N I J : List (List Int)} {f f' : Nd → Bool} (h : KE l l') (hone : (ids l').Nodup) (hw : ∀ x ∈ l', IdW x.id) (hf : Sel l F N f) (hf' : Sel l' F N f') (hI : OrdI (l.filter f) I) (hJ : OrdI (l'.filter f') J) : I = J :=
  OrdI.uniq (nodup_filter f' hone) (fun x hx => hw x (List.mem_filter.1 hx).1) (hI.key (h.filter (sel_key h hf hf'))) hJ
theorem OrdI.idw {l : List Nd} {f : Nd → Bool} {I : List (List Int)} (h : OrdI (l.filter f) I) (hw : ∀ x ∈ l, IdW x.id) : ∀ y ∈ I, IdW y := fun y hy => by
  obtain ⟨x, hx, rfl⟩ := List.mem_map.1 (h.1.sub y hy)
  exact hw x (List.mem_filter.1 hx).1
theorem OrdI.few {l : List Nd} {f : Nd → Bool} {I : List (List Int)} (h : OrdI (l.filter f) I) : I.length ≤ l.length := by
  have h1 := nodup_sub I (ids (l.filter f)) h.1.one h.1.sub
  unfold ids at h1
  rw [List.length_map] at h1
  exact Nat.le_trans h1 (List.length_filter_le _ _)
set_option maxRecDepth 20000 in
set_option maxHeartbeats 2000000 in
theorem walkO (a : Option Addr) (cap : Nat) (l : List Nd) (fa : Option Addr) (fc : Nat) (F : List (List Int)) (na : Option Addr) (nc : Nat) (N : List (List Int)) (W : World) (hP : Pn W a cap l) (hw : ∀ x ∈ l, NdW W x)
    (hF : Pa W fa fc F) (hN : Pa W na nc N) (hFi : ∀ y ∈ F, IdW y) (hNi : ∀ y ∈ N, IdW y) (hFb : F.length ≤ 200000000000000) (hNb : N.length ≤ 200000000000000) (hg : W.cell? ⟨0, 0, none⟩ = some (.iface 112 (.agg #[.pointer (some ⟨2, 25, none⟩)]))) :
    Calls Tryd.prog 4 #[.slice a l.length cap, .slice fa F.length fc, .slice na N.length nc] W fun e w' => e = .returned (.bool true) ∧ Below W.heap.size W w' := by
  have C7 : Hid (Calls Tryd.prog 7 #[.slice a l.length cap] W fun e w' => BI (Few l) e ∧ w' = W) := few_any a cap l hP (fun x hx => (hw x hx).id.1)
  obtain ⟨G, HG⟩ : ∃ G, Hid (W.heap.size = G) := ⟨_, rfl⟩
  obtain ⟨n, HN⟩ : ∃ n, Hid (l.length = n) := ⟨_, rfl⟩
  obtain ⟨nF, HNF⟩ : ∃ n, Hid (F.length = n) := ⟨_, rfl⟩
  obtain ⟨nN, HNN⟩ : ∃ n, Hid (N.length = n) := ⟨_, rfl⟩
  rw [HNF.out] at hFb
  rw [HNN.out] at hNb
  have HB0 : Hid (0 < W.heap.size) := hid (by
    rcases Nat.lt_or_ge 0 W.heap.size with h | h
    · exact h
    · simp [World.cell?, Array.getElem?_eq_none h] at hg)
  have HGD : Hid (∀ w', Below G W w' → w'.cell? ⟨0, 0, none⟩ = some (.iface 112 (.agg #[.pointer (some ⟨2, 25, none⟩)]))) := fun w' hb => (hb.cell (p := ⟨0, 0, none⟩) (by rw [← HG.out]; exact HB0.out)).trans hg
  have HPN : Hid (∀ w', Below G W w' → Pn w' a cap l) := fun w' hW => hP.below (by rw [HG.out]; exact hW)
  have HWF : Hid (∀ w', Below G W w' → ∀ x ∈ l, NdW w' x) := fun w' hW x hx => (hw x hx).below (by rw [HG.out]; exact hW)
  have HPF : Hid (∀ w', Below G W w' → Pa w' fa fc F) := fun w' hW => hF.below (by rw [HG.out]; exact hW)
  have HPO : Hid (∀ w', Below G W w' → Pa w' na nc N) := fun w' hW => hN.below (by rw [HG.out]; exact hW)
  have HFI : Hid (∀ y ∈ F, IdW y) := hFi
  have HNI : Hid (∀ y ∈ N, IdW y) := hNi
  have HGS : Hid (∀ w', Below G W w' → G ≤ w'.heap.size) := fun w' hW => by have := hW.size; have := HG.out; omega
  rw [HN.out] at C7
  rw [HN.out, HNF.out, HNN.out]
  clear hP hw hF hN hFi hNi hg
  go_enter Tryd.func4, Tryd.ntmps4
  go_wp2_with fail
  refine C7.out.mono ?_
  rintro ev w0 ⟨⟨b, hb, rfl⟩, rfl⟩
  have HFB : Hid (b = true ↔ Few l) := hb
  clear hb
  cases b with
  | false =>
    go_wp2
    go_ret
    exact ⟨rfl, Below.refl _ _⟩
  | true =>
    have HFW : Hid (Few l) := hid (HFB.out.1 rfl)
    clear HFB
    obtain ⟨s, HS⟩ : ∃ s, Hid (nF + nN = s) := ⟨_, rfl⟩
    have hsi : (nF : Int) + (nN : Int) = (s : Int) := by have := HS.out; omega
    have hsb : s ≤ 400000000000000 := by have := HS.out; omega
    by_cases hbig : 40 < s
    · have hbigi : (40 : Int) < (s : Int) := by omega
      go_wp2
      go_ret
      exact ⟨rfl, Below.refl _ _⟩
    · have hbigi : ¬ (40 : Int) < (s : Int) := by omega
      have HSUM : Hid (F.length + N.length ≤ 40) := hid (by rw [HNF.out, HNN.out, HS.out]; omega)
      have HB00 : Hid (Below G w0 w0) := hid (Below.refl _ _)
      have HIW : Hid (∀ y ∈ F ++ N, IdW y) := fun y hy => (List.mem_append.1 hy).elim (HFI.out y) (HNI.out y)
      have C12 : Hid (Calls Tryd.prog 12 #[.slice a n cap, .slice fa nF fc, .slice na nN nc] w0 (PostOr l F N w0)) := hid (by
        have := order_any a cap l (HPN.out _ HB00.out) (HWF.out _ HB00.out) HFW.out.1 HFW.out.2 fa fc F (HPF.out _ HB00.out) na nc N (HPO.out _ HB00.out) HIW.out HSUM.out
        rw [HN.out, HNF.out, HNN.out] at this
        exact this)
      go_wp2_with fail
      refine C12.out.mono ?_
      rintro ev w1 ⟨hb1, hres⟩
      have HB1 : Hid (Below G w0 w1) := hid (by rw [← HG.out]; exact hb1)
      obtain ⟨xa, xc, X, ex, hev, HXP, HXI, HXL, HRES⟩ : ∃ (xa : Option Addr) (xc : Nat) (X : List (List Int)) (ex : Value), ev = .returned (.tuple #[.slice xa X.length xc, ex]) ∧ Hid (Pa w1 xa xc X) ∧ Hid (∀ y ∈ X, IdW y) ∧ Hid (X.length ≤ 40) ∧ Hid (((OkG l ∧ ∀ y ∈ F ++ N, y ∈ ids l) ∧ ∃ f, Sel l F N f ∧ OrdI (l.filter f) X ∧ ex = .nilIface) ∨ (¬ (OkG l ∧ ∀ y ∈ F ++ N, y ∈ ids l) ∧ X = [] ∧ ex = .iface 30 (.int .i64 80))) := by
        rcases hres with ⟨hok, f, v, I, Bo, hf, hI, rfl, _, hbi⟩ | ⟨hno, rfl⟩
        · have hidw := hI.idw (fun x hx => (HWF.out _ HB00.out x hx).id)
          obtain ⟨xa, xc, hve, hvp, _, _⟩ := hbi.px (d := []) (fun z hz => by rw [row_len]; exact (hidw z hz).1)
          subst hve
          exact ⟨xa, xc, I, .nilIface, rfl, hvp, hidw, hid (Nat.le_trans hI.few HFW.out.1), hid (.inl ⟨hok, f, hf, hI, rfl⟩)⟩
        · exact ⟨none, 0, [], _, rfl, hid ⟨Nat.le_refl _, fun h => by simp at h, fun _ => rfl⟩, hid (fun y hy => by cases hy), hid (by simp), hid (.inr ⟨hno, rfl, rfl⟩)⟩
      subst hev
      obtain ⟨nx, HNX⟩ : ∃ n, Hid (X.length = n) := ⟨_, rfl⟩
      rw [HNX.out]
      have C9 : Hid (Calls Tryd.prog 9 #[.slice a n cap] w1 (PostTh l w1)) := hid (by
        have := theirs_any a cap l (HPN.out _ HB1.out) (HWF.out _ HB1.out) HFW.out.1 HFW.out.2
        rw [HN.out] at this
        exact this)
      clear hb1 hres C12
      go_wp2_with fail
      refine C9.out.mono ?_
      intro ev w2 hth
      obtain ⟨a', cap', l', rfl, hdn, hb2⟩ := dn_of hth
      rw [HN.out]
      have HB2 : Hid (Below G w0 w2) := hid (HB1.out.trans (hb2.mono (HGS.out _ HB1.out)))
      have HDN : Hid (Dn l l' w2 a' cap') := hdn
      have HXP2 : Hid (Pa w2 xa xc X) := hid (HXP.out.below hb2)
      have C13 : Hid (Calls Tryd.prog 13 #[.slice fa nF fc] w2 fun e w' => ∃ v, e = .returned v ∧ Bi 41 w2 w' w2.heap.size v F) := hid (by
        have := plain_any fa fc F (HPF.out _ HB2.out) HFI.out (by have := HSUM.out; omega)
        rw [HNF.out] at this
        exact this)
      clear hth hdn hb2 C9
      go_wp2_with fail
      refine C13.out.mono ?_
      rintro ev w3 ⟨v3, rfl, hbi3⟩
      have hb3 := hbi3.below
      have HB3 : Hid (Below G w0 w3) := hid (HB2.out.trans (hb3.mono (HGS.out _ HB2.out)))
      have HDN3 : Hid (Dn l l' w3 a' cap') := hid (HDN.out.below hb3)
      have HXP3 : Hid (Pa w3 xa xc X) := hid (HXP2.out.below hb3)
      obtain ⟨fa', fc', hve3, hvp3, _, _⟩ := hbi3.px (d := []) (fun z hz => by rw [row_len]; exact (HFI.out z hz).1)
      rw [HNF.out] at hve3
      subst hve3
      have HF3 : Hid (Pa w3 fa' fc' F) := hvp3
      have D13 : Hid (Calls Tryd.prog 13 #[.slice na nN nc] w3 fun e w' => ∃ v, e = .returned v ∧ Bi 41 w3 w' w3.heap.size v N) := hid (by
        have := plain_any na nc N (HPO.out _ HB3.out) HNI.out (by have := HSUM.out; omega)
        rw [HNN.out] at this
        exact this)
      clear hbi3 hb3 hvp3 C13
      go_wp2_with fail
      refine D13.out.mono ?_
      rintro ev w4 ⟨v4, rfl, hbi4⟩
      have hb4 := hbi4.below
      have HB4 : Hid (Below G w0 w4) := hid (HB3.out.trans (hb4.mono (HGS.out _ HB3.out)))
      have HDN4 : Hid (Dn l l' w4 a' cap') := hid (HDN3.out.below hb4)
      have HXP4 : Hid (Pa w4 xa xc X) := hid (HXP3.out.below hb4)
      have HF4 : Hid (Pa w4 fa' fc' F) := hid (HF3.out.below hb4)
      obtain ⟨na', nc', hve4, hvp4, _, _⟩ := hbi4.px (d := []) (fun z hz => by rw [row_len]; exact (HNI.out z hz).1)
      rw [HNN.out] at hve4
      subst hve4
      have C14 : Hid (Calls Tryd.prog 14 #[.slice a' n cap', .slice fa' nF fc', .slice na' nN nc'] w4 (PostRo l' F N w4)) := hid (by
        have hd := HDN4.out
        have := rorder_any a' cap' l' hd.pn hd.wf (hd.few HFW.out).1 (hd.few HFW.out).2 fa' fc' F HF4.out na' nc' N hvp4 HIW.out HSUM.out
        rw [hd.len, HN.out, HNF.out, HNN.out] at this
        exact this)
      clear hbi4 hb4 hvp4 D13
      go_wp2_with fail
      refine C14.out.mono ?_
      rintro ev w5 ⟨hb5, hres5⟩
      have HB5 : Hid (Below G w0 w5) := hid (HB4.out.trans (hb5.mono (HGS.out _ HB4.out)))
      have HXP5 : Hid (Pa w5 xa xc X) := hid (HXP4.out.below hb5)
      have hd := HDN4.out
      have HIE : Hid ((OkG l' ∧ ∀ y ∈ F ++ N, y ∈ ids l') ↔ (OkG l ∧ ∀ y ∈ F ++ N, y ∈ ids l)) := hid ⟨fun h => ⟨hd.okg.1 h.1, fun y hy => (hd.ke.ids y).2 (h.2 y hy)⟩, fun h => ⟨hd.okg.2 h.1, fun y hy => (hd.ke.ids y).1 (h.2 y hy)⟩⟩
      obtain ⟨ya, yc, ey, k, hev, HYP, HEX⟩ : ∃ (ya : Option Addr) (yc : Nat) (ey : Ending) (k : Int), ev = .returned (.tuple #[.slice ya X.length yc, .int .i64 k]) ∧ Hid (Pa w5 ya yc X) ∧ Hid ((ex = .nilIface ∧ k = 0) ∨ (ex = .iface 30 (.int .i64 80) ∧ k = 80)) := by
        rcases hres5 with ⟨hok, f', v, J, Bo, hf', hJ, rfl, hbi⟩ | ⟨hno, rfl⟩
        · rcases HRES.out with ⟨_, f, hf, hI, rfl⟩ | ⟨hno, _⟩
          · have hIJ : X = J := ord_one hd.ke (hok.1.one) (fun x hx => (hd.wf x hx).id) hf hf' hI hJ
            have hidw := hJ.idw (fun x hx => (hd.wf x hx).id)
            obtain ⟨ya, yc, hve, hvp, _, _⟩ := hbi.px (d := []) (fun z hz => by rw [row_len]; exact (hidw z hz).1)
            subst hve
            rw [← hIJ] at hvp ⊢
            exact ⟨ya, yc, .returned (.bool true), 0, rfl, hvp, hid (.inl ⟨rfl, rfl⟩)⟩
          · exact absurd (HIE.out.1 hok) hno
        · rcases HRES.out with ⟨hok, _⟩ | ⟨_, rfl, rfl⟩
          · exact absurd (HIE.out.2 hok) hno
          · exact ⟨none, 0, .returned (.bool true), 80, rfl, hid ⟨Nat.le_refl _, fun h => by simp at h, fun _ => rfl⟩, hid (.inr ⟨rfl, rfl⟩)⟩
      subst hev
      have C15 : Hid (Calls Tryd.prog 15 #[.slice xa nx xc, .slice ya nx yc] w5 fun e w' => BI (X = X) e ∧ Below w5.heap.size w5 w') := hid (by
        have h40 := HXL.out
        have := same_any xa xc X HXP5.out HXI.out ya yc X HYP.out HXI.out (by omega) (by omega)
        rw [HNX.out] at this
        exact this)
      rw [HNX.out]
      clear hb5 hres5 hd C14
      go_wp2_with fail
      refine C15.out.mono ?_
      rintro ev w6 ⟨⟨bs, hbs, rfl⟩, hb6⟩
      have hbt : bs = true := by simpa using hbs
      subst hbt
      have HB6 : Hid (Below G w0 w6) := hid (HB5.out.trans (hb6.mono (HGS.out _ HB5.out)))
      have HG6 : Hid (w6.cell? ⟨0, 0, none⟩ = some (.iface 112 (.agg #[.pointer (some ⟨2, 25, none⟩)]))) := hid (HGD.out w6 HB6.out)
      clear hbs hb6 C15
      rcases HEX.out with ⟨rfl, rfl⟩ | ⟨rfl, rfl⟩
      · have C11 : Hid (Calls Tryd.prog 11 #[.nilIface] w6 fun e w' => e = .returned (.int .i64 0) ∧ Below w6.heap.size w6 w') := tell_nil w6
        clear HEX
        go_wp2_with fail
        refine C11.out.mono ?_
        rintro ev w7 ⟨rfl, hb7⟩
        have HB7 : Hid (Below G w0 w7) := hid (HB6.out.trans (hb7.mono (HGS.out _ HB6.out)))
        clear hb7
        go_wp2
        go_ret
        exact ⟨rfl, by rw [HG.out]; exact HB7.out⟩
      · have C11 : Hid (Calls Tryd.prog 11 #[.iface 30 (.int .i64 80)] w6 fun e w' => e = .returned (.int .i64 80) ∧ Below w6.heap.size w6 w') := tell_errno 80 w6 HG6.out
        clear HEX
        go_wp2_with fail
        refine C11.out.mono ?_
        rintro ev w7 ⟨rfl, hb7⟩
        have HB7 : Hid (Below G w0 w7) := hid (HB6.out.trans (hb7.mono (HGS.out _ HB6.out)))
        clear hb7
        go_wp2
        go_ret
        exact ⟨rfl, by rw [HG.out]; exact HB7.out⟩
end Go.Proofs.YtjgjeedablgmeaaDoor
