/- The law 'GraphBases', walked. -/
import Derived.Test.YtjgjeedablgmeaaDoorGuC
import Derived.Test.YtjgjeedablgmeaaDoorGoA
namespace Go.Proofs.YtjgjeedablgmeaaDoor
open Go.RowKit
set_option linter.unusedVariables false
set_option linter.unusedSimpArgs false
theorem In2.key {l l' : List Nd} {w : World} {a : Option Addr} {cap : Nat} (h : Dn l l' w a cap) (x y : List Int) : In2 l' x y ↔ In2 l x y := ⟨fun k => ⟨h.okg.1 k.1, fun z hz => (h.ke.ids z).2 (k.2 z hz)⟩, fun k => ⟨h.okg.2 k.1, fun z hz => (h.ke.ids z).1 (k.2 z hz)⟩⟩
theorem Tp.key {l l' : List Nd} {S T : List Int → Prop} (hk : KE l l') (h : ∀ z, S z ↔ T z) (y : List Int) : Tp l S y ↔ Tp l' T y := by
  unfold Tp
  rw [h y]
  have e : Rch l (fun p => ∃ x ∈ l, S x.id ∧ p ∈ x.ps) y ↔ Rch l' (fun p => ∃ x ∈ l', T x.id ∧ p ∈ x.ps) y := by
    rw [hk.rch]
    have e2 : ∀ p, (∃ x ∈ l, S x.id ∧ p ∈ x.ps) ↔ (∃ x ∈ l', T x.id ∧ p ∈ x.ps) := fun p => ⟨fun ⟨x, h1, h2, h3⟩ => by
      obtain ⟨x', k1, k2⟩ := hk.1 x h1
      exact ⟨x', k1, by rw [key_id' k2]; exact (h _).1 h2, by rw [key_ps k2]; exact h3⟩, fun ⟨x, h1, h2, h3⟩ => by
      obtain ⟨x', k1, k2⟩ := hk.2 x h1
      exact ⟨x', k1, by rw [key_id' k2]; exact (h _).2 h2, by rw [key_ps k2]; exact h3⟩⟩
    exact ⟨fun k => k.trans (fun p hp => Rch.of ((e2 p).1 hp)), fun k => k.trans (fun p hp => Rch.of ((e2 p).2 hp))⟩
  rw [e]
theorem bth_key {l l' : List Nd} (hk : KE l l') (x y z : List Int) : Bth l x y z ↔ Bth l' x y z := by
  unfold Bth
  rw [hk.rch, hk.rch]
set_option maxRecDepth 20000 in
set_option maxHeartbeats 4000000 in
theorem walkB (H51 : S51) (a : Option Addr) (cap : Nat) (l : List Nd) (p q : List Int) (fa : Option Addr) (fc : Nat) (F : List (List Int)) (W : World) (hP : Pn W a cap l) (hw : ∀ x ∈ l, NdW W x) (hp : IdW p) (hq : IdW q)
    (hF : Pa W fa fc F) (hFi : ∀ y ∈ F, IdW y) (hg : W.cell? ⟨0, 0, none⟩ = some (.iface 112 (.agg #[.pointer (some ⟨2, 25, none⟩)]))) :
    Calls Tryd.prog 5 #[.slice a l.length cap, idV p, idV q, .slice fa F.length fc] W fun e w' => e = .returned (.bool true) ∧ Below W.heap.size W w' := by
  obtain ⟨G, HG⟩ : ∃ G, Hid (W.heap.size = G) := ⟨_, rfl⟩
  obtain ⟨n, HN⟩ : ∃ n, Hid (l.length = n) := ⟨_, rfl⟩
  obtain ⟨nF, HNF⟩ : ∃ n, Hid (F.length = n) := ⟨_, rfl⟩
  obtain ⟨RP, HRP⟩ : ∃ X : List Value, Hid (row .u8 p = X) := ⟨_, rfl⟩
  obtain ⟨RQ, HRQ⟩ : ∃ X : List Value, Hid (row .u8 q = X) := ⟨_, rfl⟩
  have hiP : (Tryd.prog.info? 42).map (·.size) = some RP.length := by rw [← HRP.out, row_len, hp.1]; exact Tryd.size42
  have hiQ : (Tryd.prog.info? 42).map (·.size) = some RQ.length := by rw [← HRQ.out, row_len, hq.1]; exact Tryd.size42
  have HPW : Hid (IdW p) := hp
  have HQW : Hid (IdW q) := hq
  have HG0 : Hid (0 < W.heap.size) := hid (by
    rcases Nat.lt_or_ge 0 W.heap.size with h | h
    · exact h
    · simp [World.cell?, Array.getElem?_eq_none h] at hg)
  obtain ⟨w1, HW1⟩ : ∃ u, Hid ((W.alloc (.cells RP.toArray 42)).alloc (.cells RQ.toArray 42) = u) := ⟨_, rfl⟩
  have hb1 : Below W.heap.size W w1 := by rw [← HW1.out]; exact ((Below.refl _ W).alloc (Nat.le_refl _) _).alloc (by simp) _
  have hs1 : w1.heap.size = G + 2 := by rw [← HW1.out, ← HG.out]; simp
  have hx1 : w1.heap[G]? = some (.cells RP.toArray 42 (0, 0)) := by
    rw [← HW1.out, ← HG.out]
    exact (heap_alloc_old _ _ (by simp)).trans (heap_alloc_new W _)
  have hy1 : w1.heap[G + 1]? = some (.cells RQ.toArray 42 (0, 0)) := by
    rw [← HW1.out, ← HG.out]
    have := heap_alloc_new (W.alloc (.cells RP.toArray 42)) (.cells RQ.toArray 42)
    simpa using this
  have HQQ : Hid (∀ V, Below (G + 2) w1 V → QS G 0 (G + 1) 0 RP RQ V) := fun V hV => ⟨range_row ((hV.block G (by omega)).trans hx1), range_row ((hV.block (G + 1) (by omega)).trans hy1)⟩
  have HBF : Hid (∀ V, Below (G + 2) w1 V → Below G W V) := fun V hV => (by rw [← HG.out]; exact hb1 : Below G W w1).trans (hV.mono (by omega))
  have HSZ : Hid (∀ V, Below (G + 2) w1 V → G + 2 ≤ V.heap.size) := fun V hV => by have := hV.size; omega
  have HPN : Hid (∀ V, Below (G + 2) w1 V → Pn V a cap l) := fun V hV => hP.below (by rw [HG.out]; exact HBF.out V hV)
  have HWF : Hid (∀ V, Below (G + 2) w1 V → ∀ x ∈ l, NdW V x) := fun V hV x hx => (hw x hx).below (by rw [HG.out]; exact HBF.out V hV)
  have HPF : Hid (∀ V, Below (G + 2) w1 V → Pa V fa fc F) := fun V hV => hF.below (by rw [HG.out]; exact HBF.out V hV)
  have HFI : Hid (∀ y ∈ F, IdW y) := hFi
  have HIW : Hid (∀ x ∈ l, IdW x.id) := fun x hx => (hw x hx).id
  have HGD : Hid (∀ V, Below (G + 2) w1 V → V.cell? ⟨0, 0, none⟩ = some (.iface 112 (.agg #[.pointer (some ⟨2, 25, none⟩)]))) := fun V hV => ((HBF.out V hV).cell (p := ⟨0, 0, none⟩) (by rw [← HG.out]; exact HG0.out)).trans hg
  have HB1 : Hid (Below (G + 2) w1 w1) := hid (Below.refl _ _)
  have C7 : Hid (Calls Tryd.prog 7 #[.slice a n cap] w1 fun e w' => BI (Few l) e ∧ w' = w1) := hid (by
    have := few_any a cap l (HPN.out _ HB1.out) (fun x hx => (HIW.out x hx).1)
    rw [HN.out] at this
    exact this)
  have HH51 : Hid S51 := H51
  unfold idV
  rw [HN.out, HRP.out, HRQ.out, HNF.out]
  clear hP hw hp hq hg hb1 hs1 hx1 hy1 H51 hF hFi
  go_enter Tryd.func5, Tryd.ntmps5
  go_wp2_with fail
  rw [HW1.out, HG.out]
  refine C7.out.mono ?_
  rintro ev w0 ⟨⟨b0, hb0, rfl⟩, rfl⟩
  have HFB : Hid (b0 = true ↔ Few l) := hb0
  clear hb0
  cases b0 with
  | false =>
    go_wp2
    go_ret
    exact ⟨rfl, by rw [HG.out]; exact HBF.out _ HB1.out⟩
  | true =>
  have HFW : Hid (Few l) := hid (HFB.out.1 rfl)
  clear HFB C7
  by_cases hbig : 40 < nF
  · have hbigi : (40 : Int) < (nF : Int) := by omega
    go_wp2
    go_ret
    exact ⟨rfl, by rw [HG.out]; exact HBF.out _ HB1.out⟩
  have hbigi : ¬ (40 : Int) < (nF : Int) := by omega
  have HFL : Hid (F.length ≤ 40) := hid (by rw [HNF.out]; omega)
  have C9 : Hid (Calls Tryd.prog 9 #[.slice a n cap] w0 (PostTh l w0)) := hid (by
    have := theirs_any a cap l (HPN.out _ HB1.out) (HWF.out _ HB1.out) HFW.out.1 HFW.out.2
    rw [HN.out] at this
    exact this)
  go_wp2_with fail
  refine C9.out.mono ?_
  intro ev w2 hth
  obtain ⟨a', cap', l', rfl, hdn, hb2⟩ := dn_of hth
  rw [HN.out]
  have HB2 : Hid (Below (G + 2) w0 w2) := hid (hb2.mono (HSZ.out _ HB1.out))
  obtain ⟨G2, HG2⟩ : ∃ K, Hid (w2.heap.size = K) := ⟨_, rfl⟩
  have HBB : Hid (∀ V, Below G2 w2 V → Below (G + 2) w0 V) := fun V hV => HB2.out.trans (hV.mono (by rw [← HG2.out]; exact HSZ.out _ HB2.out))
  have HDN : Hid (∀ V, Below G2 w2 V → Dn l l' V a' cap') := fun V hV => hdn.below (by rw [HG2.out]; exact hV)
  have HS2 : Hid (∀ V, Below G2 w2 V → G2 ≤ V.heap.size) := fun V hV => by have := hV.size; have := HG2.out; omega
  have HD0 : Hid (Dn l l' w2 a' cap') := hdn
  have HC2 : Hid (Below G2 w2 w2) := hid (Below.refl _ _)
  have HSTEP : Hid (∀ V V', Below G2 w2 V → Below V.heap.size V V' → Below G2 w2 V') := fun V V' h1 h2 => h1.trans (h2.mono (HS2.out V h1))
  clear hth hdn hb2 C9
  have T0 : Hid (∀ V, Below G2 w2 V → ∀ k ex, ((ex = Value.nilIface ∧ k = 0) ∨ (ex = .iface 30 (.int .i64 80) ∧ k = 80)) → Calls Tryd.prog 11 #[ex] V fun e w' => e = .returned (.int .i64 k) ∧ Below V.heap.size V w') := fun V hV k ex h => by
    rcases h with ⟨rfl, rfl⟩ | ⟨rfl, rfl⟩
    · exact tell_nil V
    · exact tell_errno 80 V (HGD.out V (HBB.out V hV))
  -- Reaches
  have Q2 : Hid (QS G 0 (G + 1) 0 RP RQ w2) := hid (HQQ.out _ HB2.out)
  have C16 : Hid (Calls Tryd.prog 16 #[.slice a n cap, .agg RP.toArray, .agg RQ.toArray] w2 (PostRe l p q w2)) := hid (by
    have := reaches_any a cap l (HPN.out _ HB2.out) (HWF.out _ HB2.out) HFW.out.1 HFW.out.2 p q HPW.out HQW.out
    unfold idV at this
    rw [HN.out, HRP.out, HRQ.out] at this
    exact this)
  go_wp2_with (first
    | refine wpList_load_mid rfl 42 _ rfl G 0 rfl RP _ Q2.out.r0 Tryd.underlying42 rfl hiP ?_
    | refine wpList_load_mid rfl 42 _ rfl (G + 1) 0 rfl RQ _ Q2.out.r1 Tryd.underlying42 rfl hiQ ?_
    | fail)
  refine C16.out.mono ?_
  rintro ev w3 ⟨hb3, hre⟩
  obtain ⟨r1, e1, hev, HRE⟩ : ∃ (r1 : Bool) (e1 : Value), ev = .returned (.tuple #[.bool r1, e1]) ∧ Hid ((In2 l p q ∧ (r1 = true ↔ Rch l (· ∈ [p]) q) ∧ e1 = .nilIface) ∨ (¬ In2 l p q ∧ r1 = false ∧ e1 = .iface 30 (.int .i64 80))) := by
    rcases hre with ⟨hin, b, h1, rfl⟩ | ⟨hno, rfl⟩
    · exact ⟨b, _, rfl, hid (.inl ⟨hin, h1, rfl⟩)⟩
    · exact ⟨false, _, rfl, hid (.inr ⟨hno, rfl, rfl⟩)⟩
  subst hev
  have HB3 : Hid (Below G2 w2 w3) := hid (HSTEP.out _ _ HC2.out hb3)
  have Q3 : Hid (QS G 0 (G + 1) 0 RP RQ w3) := hid (HQQ.out _ (HBB.out _ HB3.out))
  have C17 : Hid (Calls Tryd.prog 17 #[.slice a' n cap', .agg RP.toArray, .agg RQ.toArray] w3 (PostRq l' p q w3)) := hid (by
    have hd := HDN.out _ HB3.out
    have := rreaches_any a' cap' l' hd.pn hd.wf (hd.few HFW.out).1 (hd.few HFW.out).2 p q HPW.out HQW.out
    unfold idV at this
    rw [hd.len, HN.out, HRP.out, HRQ.out] at this
    exact this)
  clear hb3 hre C16
  go_wp2_with (first
    | refine wpList_load_mid rfl 42 _ rfl G 0 rfl RP _ Q3.out.r0 Tryd.underlying42 rfl hiP ?_
    | refine wpList_load_mid rfl 42 _ rfl (G + 1) 0 rfl RQ _ Q3.out.r1 Tryd.underlying42 rfl hiQ ?_
    | fail)
  refine C17.out.mono ?_
  rintro ev w4 ⟨hb4, hrq⟩
  obtain ⟨k1, hev, HE1⟩ : ∃ k1 : Int, ev = .returned (.tuple #[.bool r1, .int .i64 k1]) ∧ Hid ((e1 = Value.nilIface ∧ k1 = 0) ∨ (e1 = .iface 30 (.int .i64 80) ∧ k1 = 80)) := by
    rcases hrq with ⟨hin, b, h1, rfl⟩ | ⟨hno, rfl⟩
    · rcases HRE.out with ⟨_, h2, rfl⟩ | ⟨h2, _⟩
      · have : b = r1 := by rw [Bool.eq_iff_iff, h1, h2, HD0.out.ke.rch]
        subst this
        exact ⟨0, rfl, hid (.inl ⟨rfl, rfl⟩)⟩
      · exact absurd ((In2.key HD0.out p q).1 hin) h2
    · rcases HRE.out with ⟨h2, _⟩ | ⟨_, rfl, rfl⟩
      · exact absurd ((In2.key HD0.out p q).2 h2) hno
      · exact ⟨80, rfl, hid (.inr ⟨rfl, rfl⟩)⟩
  subst hev
  have HB4 : Hid (Below G2 w2 w4) := hid (HSTEP.out _ _ HB3.out hb4)
  have C11 : Hid (Calls Tryd.prog 11 #[e1] w4 fun e w' => e = .returned (.int .i64 k1) ∧ Below w4.heap.size w4 w') := hid (T0.out w4 HB4.out k1 e1 HE1.out)
  have hrr : (r1 == r1) = true := by simp
  have hkb : ((k1 : Int) == k1) = true := by simp
  clear hb4 hrq C17
  go_wp2_with fail
  refine C11.out.mono ?_
  rintro ev w5 ⟨rfl, hb5⟩
  have HB5 : Hid (Below G2 w2 w5) := hid (HSTEP.out _ _ HB4.out hb5)
  have Q5 : Hid (QS G 0 (G + 1) 0 RP RQ w5) := hid (HQQ.out _ (HBB.out _ HB5.out))
  have C18 : Hid (Calls Tryd.prog 18 #[.slice a n cap, .agg RP.toArray, .agg RQ.toArray] w5 (PostBa l p q w5)) := hid (by
    have hB := HBB.out _ HB5.out
    have := bases_any HH51.out a cap l (HPN.out _ hB) (HWF.out _ hB) HFW.out.1 HFW.out.2 p q HPW.out HQW.out
    unfold idV at this
    rw [HN.out, HRP.out, HRQ.out] at this
    exact this)
  clear hb5 C11
  go_wp2_with (first
    | refine wpList_load_mid rfl 42 _ rfl G 0 rfl RP _ Q5.out.r0 Tryd.underlying42 rfl hiP ?_
    | refine wpList_load_mid rfl 42 _ rfl (G + 1) 0 rfl RQ _ Q5.out.r1 Tryd.underlying42 rfl hiQ ?_
    | fail)
  refine C18.out.mono ?_
  rintro ev w6 ⟨hb6, hres⟩
  obtain ⟨xa, xc, X, e2, hev, HXP, HXI, HXL, HRES⟩ : ∃ (xa : Option Addr) (xc : Nat) (X : List (List Int)) (ex : Value), ev = .returned (.tuple #[.slice xa X.length xc, ex]) ∧ Hid (Pa w6 xa xc X) ∧ Hid (∀ z ∈ X, IdW z) ∧ Hid (X.length ≤ 40) ∧ Hid ((In2 l p q ∧ Lst' (Tp l (Bth l p q)) X ∧ X.Pairwise (fun x y => ¬ Lib.bytesOf y < Lib.bytesOf x) ∧ ex = .nilIface) ∨ (¬ In2 l p q ∧ X = [] ∧ ex = .iface 30 (.int .i64 80))) := by
    rcases hres with ⟨hin, xa, xc, xs, rfl, h1, h2, h3⟩ | ⟨hno, rfl⟩
    · have hsub : ∀ z ∈ xs, z ∈ ids l := fun z hz => rch_in hin.1.par (fun u hu => hin.2 u (by rw [List.mem_singleton.1 hu]; simp)) z ((h1.all z (h1.idw z hz)).1 hz).1.1
      have hlen := nodup_sub xs (ids l) h1.one hsub
      have h40 : (ids l).length = l.length := by unfold ids; rw [List.length_map]
      exact ⟨xa, xc, xs, .nilIface, rfl, h3, h1.idw, hid (by have := HFW.out.1; omega), hid (.inl ⟨hin, h1, h2, rfl⟩)⟩
    · exact ⟨none, 0, [], _, rfl, hid ⟨Nat.le_refl _, fun h => by simp at h, fun _ => rfl⟩, hid (fun z hz => by cases hz), hid (by simp), hid (.inr ⟨hno, rfl, rfl⟩)⟩
  subst hev
  obtain ⟨nx, HNX⟩ : ∃ n, Hid (X.length = n) := ⟨_, rfl⟩
  rw [HNX.out]
  have HB6 : Hid (Below G2 w2 w6) := hid (HSTEP.out _ _ HB5.out hb6)
  have Q6 : Hid (QS G 0 (G + 1) 0 RP RQ w6) := hid (HQQ.out _ (HBB.out _ HB6.out))
  have C19 : Hid (Calls Tryd.prog 19 #[.slice a' n cap', .agg RP.toArray, .agg RQ.toArray] w6 (PostBq l' p q w6)) := hid (by
    have hd := HDN.out _ HB6.out
    have := rbases_any a' cap' l' hd.pn hd.wf (hd.few HFW.out).1 (hd.few HFW.out).2 p q HPW.out HQW.out
    unfold idV at this
    rw [hd.len, HN.out, HRP.out, HRQ.out] at this
    exact this)
  clear hb6 hres C18
  go_wp2_with (first
    | refine wpList_load_mid rfl 42 _ rfl G 0 rfl RP _ Q6.out.r0 Tryd.underlying42 rfl hiP ?_
    | refine wpList_load_mid rfl 42 _ rfl (G + 1) 0 rfl RQ _ Q6.out.r1 Tryd.underlying42 rfl hiQ ?_
    | fail)
  refine C19.out.mono ?_
  rintro ev w7 ⟨hb7, hres⟩
  obtain ⟨ya, yc, k2, hev, HYP, HE2⟩ : ∃ (ya : Option Addr) (yc : Nat) (k2 : Int), ev = .returned (.tuple #[.slice ya X.length yc, .int .i64 k2]) ∧ Hid (Pa w7 ya yc X) ∧ Hid ((e2 = Value.nilIface ∧ k2 = 0) ∨ (e2 = .iface 30 (.int .i64 80) ∧ k2 = 80)) := by
    rcases hres with ⟨hin, ya, yc, ys, rfl, h1, h2, h3⟩ | ⟨hno, rfl⟩
    · rcases HRES.out with ⟨_, q1, q2, rfl⟩ | ⟨q1, _⟩
      · have e : X = ys := lst_one (fun z => ((Tp.key HD0.out.ke (bth_key HD0.out.ke p q) z).trans (tq_tp hin.1.acy z).symm)) q1 h1 q2 h2.not
        subst e
        exact ⟨ya, yc, 0, rfl, h3, hid (.inl ⟨rfl, rfl⟩)⟩
      · exact absurd ((In2.key HD0.out p q).1 hin) q1
    · rcases HRES.out with ⟨q1, _⟩ | ⟨_, rfl, rfl⟩
      · exact absurd ((In2.key HD0.out p q).2 q1) hno
      · exact ⟨none, 0, 80, rfl, hid ⟨Nat.le_refl _, fun h => by simp at h, fun _ => rfl⟩, hid (.inr ⟨rfl, rfl⟩)⟩
  subst hev
  rw [HNX.out]
  have HB7 : Hid (Below G2 w2 w7) := hid (HSTEP.out _ _ HB6.out hb7)
  have C15 : Hid (Calls Tryd.prog 15 #[.slice xa nx xc, .slice ya nx yc] w7 fun e w' => BI (X = X) e ∧ Below w7.heap.size w7 w') := hid (by
    have h40 := HXL.out
    have := same_any xa xc X (HXP.out.below hb7) HXI.out ya yc X HYP.out HXI.out (by omega) (by omega)
    rw [HNX.out] at this
    exact this)
  clear hb7 hres C19
  go_wp2_with fail
  refine C15.out.mono ?_
  rintro ev w8 ⟨⟨bs, hbs, rfl⟩, hb8⟩
  have hbt : bs = true := by simpa using hbs
  subst hbt
  have HB8 : Hid (Below G2 w2 w8) := hid (HSTEP.out _ _ HB7.out hb8)
  have D11 : Hid (Calls Tryd.prog 11 #[e2] w8 fun e w' => e = .returned (.int .i64 k2) ∧ Below w8.heap.size w8 w') := hid (T0.out w8 HB8.out k2 e2 HE2.out)
  have hkb2 : ((k2 : Int) == k2) = true := by simp
  clear hbs hb8 C15
  go_wp2_with fail
  refine D11.out.mono ?_
  rintro ev w9 ⟨rfl, hb9⟩
  have HB9 : Hid (Below G2 w2 w9) := hid (HSTEP.out _ _ HB8.out hb9)
  have C20 : Hid (Calls Tryd.prog 20 #[.slice a n cap, .slice fa nF fc] w9 (PostRd l F w9)) := hid (by
    have hB := HBB.out _ HB9.out
    have := reduce_any HH51.out a cap l (HPN.out _ hB) (HWF.out _ hB) HFW.out.1 HFW.out.2 fa fc F (HPF.out _ hB) HFI.out HFL.out
    rw [HN.out, HNF.out] at this
    exact this)
  clear hb9 D11
  go_wp2_with fail
  refine C20.out.mono ?_
  rintro ev w10 ⟨hb10, hres⟩
  obtain ⟨za, zc, Z, e3, hev, HZP, HZI, HZL, HRES3⟩ : ∃ (xa : Option Addr) (xc : Nat) (X : List (List Int)) (ex : Value), ev = .returned (.tuple #[.slice xa X.length xc, ex]) ∧ Hid (Pa w10 xa xc X) ∧ Hid (∀ z ∈ X, IdW z) ∧ Hid (X.length ≤ 40) ∧ Hid (((OkG l ∧ ∀ y ∈ F, y ∈ ids l) ∧ Lst' (Tp l (· ∈ F)) X ∧ X.Pairwise (fun x y => ¬ Lib.bytesOf y < Lib.bytesOf x) ∧ ex = .nilIface) ∨ (¬ (OkG l ∧ ∀ y ∈ F, y ∈ ids l) ∧ X = [] ∧ ex = .iface 30 (.int .i64 80))) := by
    rcases hres with ⟨hin, xa, xc, xs, rfl, h1, h2, h3⟩ | ⟨hno, rfl⟩
    · have hlen := nodup_sub xs F h1.one (fun z hz => ((h1.all z (h1.idw z hz)).1 hz).1)
      exact ⟨xa, xc, xs, .nilIface, rfl, h3, h1.idw, hid (by have := HFL.out; omega), hid (.inl ⟨hin, h1, h2, rfl⟩)⟩
    · exact ⟨none, 0, [], _, rfl, hid ⟨Nat.le_refl _, fun h => by simp at h, fun _ => rfl⟩, hid (fun z hz => by cases hz), hid (by simp), hid (.inr ⟨hno, rfl, rfl⟩)⟩
  subst hev
  obtain ⟨nz, HNZ⟩ : ∃ n, Hid (Z.length = n) := ⟨_, rfl⟩
  rw [HNZ.out]
  have HB10 : Hid (Below G2 w2 w10) := hid (HSTEP.out _ _ HB9.out hb10)
  have C13 : Hid (Calls Tryd.prog 13 #[.slice fa nF fc] w10 fun e w' => ∃ v, e = .returned v ∧ Bi 41 w10 w' w10.heap.size v F) := hid (by
    have := plain_any fa fc F (HPF.out _ (HBB.out _ HB10.out)) HFI.out (by have := HFL.out; omega)
    rw [HNF.out] at this
    exact this)
  clear hb10 hres C20
  go_wp2_with fail
  refine C13.out.mono ?_
  rintro ev w11 ⟨v11, rfl, hbi11⟩
  have HB11 : Hid (Below G2 w2 w11) := hid (HSTEP.out _ _ HB10.out hbi11.below)
  have HZP11 : Hid (Pa w11 za zc Z) := hid (HZP.out.below hbi11.below)
  obtain ⟨ga, gc, hve, hvp, _, _⟩ := hbi11.px (d := []) (fun z hz => by rw [row_len]; exact (HFI.out z hz).1)
  rw [HNF.out] at hve
  subst hve
  have C21 : Hid (Calls Tryd.prog 21 #[.slice a' n cap', .slice ga nF gc] w11 (PostRr l' F w11)) := hid (by
    have hd := HDN.out _ HB11.out
    have := rreduce_any a' cap' l' hd.pn hd.wf (hd.few HFW.out).1 (hd.few HFW.out).2 ga gc F hvp HFI.out HFL.out
    rw [hd.len, HN.out, HNF.out] at this
    exact this)
  clear hbi11 hvp C13
  go_wp2_with fail
  refine C21.out.mono ?_
  rintro ev w12 ⟨hb12, hres⟩
  have HIE : Hid ((OkG l' ∧ ∀ y ∈ F, y ∈ ids l') ↔ (OkG l ∧ ∀ y ∈ F, y ∈ ids l)) := hid ⟨fun h => ⟨HD0.out.okg.1 h.1, fun y hy => (HD0.out.ke.ids y).2 (h.2 y hy)⟩, fun h => ⟨HD0.out.okg.2 h.1, fun y hy => (HD0.out.ke.ids y).1 (h.2 y hy)⟩⟩
  obtain ⟨ha', hc', k3, hev, HHP, HE3⟩ : ∃ (ya : Option Addr) (yc : Nat) (k3 : Int), ev = .returned (.tuple #[.slice ya Z.length yc, .int .i64 k3]) ∧ Hid (Pa w12 ya yc Z) ∧ Hid ((e3 = Value.nilIface ∧ k3 = 0) ∨ (e3 = .iface 30 (.int .i64 80) ∧ k3 = 80)) := by
    rcases hres with ⟨hin, ya, yc, ys, rfl, h1, h2, h3⟩ | ⟨hno, rfl⟩
    · rcases HRES3.out with ⟨_, q1, q2, rfl⟩ | ⟨q1, _⟩
      · have e : Z = ys := lst_one (fun z => ((Tp.key HD0.out.ke (fun _ => Iff.rfl) z).trans (tq_tp hin.1.acy z).symm)) q1 h1 q2 h2.not
        subst e
        exact ⟨ya, yc, 0, rfl, h3, hid (.inl ⟨rfl, rfl⟩)⟩
      · exact absurd (HIE.out.1 hin) q1
    · rcases HRES3.out with ⟨q1, _⟩ | ⟨_, rfl, rfl⟩
      · exact absurd (HIE.out.2 q1) hno
      · exact ⟨none, 0, 80, rfl, hid ⟨Nat.le_refl _, fun h => by simp at h, fun _ => rfl⟩, hid (.inr ⟨rfl, rfl⟩)⟩
  subst hev
  rw [HNZ.out]
  have HB12 : Hid (Below G2 w2 w12) := hid (HSTEP.out _ _ HB11.out hb12)
  have D15 : Hid (Calls Tryd.prog 15 #[.slice za nz zc, .slice ha' nz hc'] w12 fun e w' => BI (Z = Z) e ∧ Below w12.heap.size w12 w') := hid (by
    have h40 := HZL.out
    have := same_any za zc Z (HZP11.out.below hb12) HZI.out ha' hc' Z HHP.out HZI.out (by omega) (by omega)
    rw [HNZ.out] at this
    exact this)
  clear hb12 hres C21
  go_wp2_with fail
  refine D15.out.mono ?_
  rintro ev w13 ⟨⟨bs, hbs, rfl⟩, hb13⟩
  have hbt : bs = true := by simpa using hbs
  subst hbt
  have HB13 : Hid (Below G2 w2 w13) := hid (HSTEP.out _ _ HB12.out hb13)
  have E11 : Hid (Calls Tryd.prog 11 #[e3] w13 fun e w' => e = .returned (.int .i64 k3) ∧ Below w13.heap.size w13 w') := hid (T0.out w13 HB13.out k3 e3 HE3.out)
  have hkb3 : ((k3 : Int) == k3) = true := by simp
  clear hbs hb13 D15
  go_wp2_with fail
  refine E11.out.mono ?_
  rintro ev w14 ⟨rfl, hb14⟩
  have HB14 : Hid (Below G2 w2 w14) := hid (HSTEP.out _ _ HB13.out hb14)
  clear hb14
  go_wp2
  go_ret
  exact ⟨rfl, by rw [HG.out]; exact HBF.out _ (HBB.out _ HB14.out)⟩
end Go.Proofs.YtjgjeedablgmeaaDoor
