/- The law 'GraphMeets', walked. -/
import Derived.Test.YtjgjeedablgmeaaDoorGtF
import Derived.Test.YtjgjeedablgmeaaDoorGpM
import Derived.Test.YtjgjeedablgmeaaDoorGoA
namespace Go.Proofs.YtjgjeedablgmeaaDoor
open Go.RowKit
set_option linter.unusedVariables false
set_option linter.unusedSimpArgs false
theorem enter16 (v1 v2 v3 : Value) (w : World) : (callFunc 16 #[v1, v2, v3]).run Tryd.prog w = .ok (.enter 16 #[v1, v2, v3]) w := by kernel_rfl
structure QV (b oi pb py : Nat) (sv : Value) (X Z : List Value) (W : World) : Prop where
  r0 : W.rangeAt b oi X
  c1 : W.cell? ⟨b, oi + 20, none⟩ = some sv
  r1 : W.rangeAt pb py Z
def BIff' (b : Bool) (p : Prop) : Prop := b = true ↔ p
theorem In2.comm {l : List Nd} {p q : List Int} : In2 l p q ↔ In2 l q p := ⟨fun h => ⟨h.1, fun z hz => h.2 z (by simp at hz ⊢; exact hz.symm)⟩, fun h => ⟨h.1, fun z hz => h.2 z (by simp at hz ⊢; exact hz.symm)⟩⟩
set_option maxRecDepth 20000 in
set_option maxHeartbeats 8000000 in
theorem walkM (H51 : S51) (a : Option Addr) (cap : Nat) (l : List Nd) (p q : List Int) (W : World) (hP : Pn W a cap l) (hw : ∀ x ∈ l, NdW W x) (hp : IdW p) (hq : IdW q) (hg : W.cell? ⟨0, 0, none⟩ = some (.iface 112 (.agg #[.pointer (some ⟨2, 25, none⟩)]))) :
    Calls Tryd.prog 6 #[.slice a l.length cap, idV p, idV q] W fun e w' => e = .returned (.bool true) ∧ Below W.heap.size W w' := by
  obtain ⟨G, HG⟩ : ∃ G, Hid (W.heap.size = G) := ⟨_, rfl⟩
  obtain ⟨n, HN⟩ : ∃ n, Hid (l.length = n) := ⟨_, rfl⟩
  obtain ⟨RP, HRP⟩ : ∃ X : List Value, Hid (row .u8 p = X) := ⟨_, rfl⟩
  obtain ⟨RQ, HRQ⟩ : ∃ X : List Value, Hid (row .u8 q = X) := ⟨_, rfl⟩
  have hiP : (Tryd.prog.info? 42).map (·.size) = some RP.length := by rw [← HRP.out, row_len, hp.1]; exact Tryd.size42
  have hiQ : (Tryd.prog.info? 42).map (·.size) = some RQ.length := by rw [← HRQ.out, row_len, hq.1]; exact Tryd.size42
  have HPW : Hid (IdW p) := hp
  have HQW : Hid (IdW q) := hq
  have HG0 : Hid (0 < W.heap.size) := hid (by
    rcases Nat.lt_or_ge 0 W.heap.size with h | h
    · exact h
    · simp [World.cell?, Array.getElem?_eq_none h] at hg)
  obtain ⟨w1, HW1⟩ : ∃ u, Hid ((W.alloc (.cells RP.toArray 42)).alloc (.cells RQ.toArray 42) = u) := ⟨_, rfl⟩
  have hb1 : Below W.heap.size W w1 := by rw [← HW1.out]; exact ((Below.refl _ W).alloc (Nat.le_refl _) _).alloc (by simp) _
  have hs1 : w1.heap.size = G + 2 := by rw [← HW1.out, ← HG.out]; simp
  have hx1 : w1.heap[G]? = some (.cells RP.toArray 42 (0, 0)) := by
    rw [← HW1.out, ← HG.out]
    exact (heap_alloc_old _ _ (by simp)).trans (heap_alloc_new W _)
  have hy1 : w1.heap[G + 1]? = some (.cells RQ.toArray 42 (0, 0)) := by
    rw [← HW1.out, ← HG.out]
    have := heap_alloc_new (W.alloc (.cells RP.toArray 42)) (.cells RQ.toArray 42)
    simpa using this
  have HQQ : Hid (∀ V, Below (G + 2) w1 V → QS G 0 (G + 1) 0 RP RQ V) := fun V hV => ⟨range_row ((hV.block G (by omega)).trans hx1), range_row ((hV.block (G + 1) (by omega)).trans hy1)⟩
  have HBF : Hid (∀ V, Below (G + 2) w1 V → Below G W V) := fun V hV => (by rw [← HG.out]; exact hb1 : Below G W w1).trans (hV.mono (by omega))
  have HSZ : Hid (∀ V, Below (G + 2) w1 V → G + 2 ≤ V.heap.size) := fun V hV => by have := hV.size; omega
  have HPN : Hid (∀ V, Below (G + 2) w1 V → Pn V a cap l) := fun V hV => hP.below (by rw [HG.out]; exact HBF.out V hV)
  have HWF : Hid (∀ V, Below (G + 2) w1 V → ∀ x ∈ l, NdW V x) := fun V hV x hx => (hw x hx).below (by rw [HG.out]; exact HBF.out V hV)
  have HIW : Hid (∀ x ∈ l, IdW x.id) := fun x hx => (hw x hx).id
  have HGD : Hid (∀ V, Below (G + 2) w1 V → V.cell? ⟨0, 0, none⟩ = some (.iface 112 (.agg #[.pointer (some ⟨2, 25, none⟩)]))) := fun V hV => ((HBF.out V hV).cell (p := ⟨0, 0, none⟩) (by rw [← HG.out]; exact HG0.out)).trans hg
  have HB01 : Hid (Below (G + 2) w1 w1) := hid (Below.refl _ _)
  have C7 : Hid (Calls Tryd.prog 7 #[.slice a n cap] w1 fun e w' => BI (Few l) e ∧ w' = w1) := hid (by
    have := few_any a cap l (HPN.out _ HB01.out) (fun x hx => (HIW.out x hx).1)
    rw [HN.out] at this
    exact this)
  have HPL : Hid (0 < n → ∃ b off, a = some ⟨b, off, none⟩) := fun h0 => by
    obtain ⟨b, off, e1, _⟩ := hP.at_ (by rw [HN.out]; exact h0)
    exact ⟨b, off, e1⟩
  have HH51 : Hid S51 := H51
  unfold idV
  rw [HN.out, HRP.out, HRQ.out]
  clear hP hw hp hq hg hb1 hs1 hx1 hy1 H51
  go_enter Tryd.func6, Tryd.ntmps6
  go_wp2_with fail
  rw [HW1.out, HG.out]
  refine C7.out.mono ?_
  rintro ev w0 ⟨⟨b0, hb0, rfl⟩, rfl⟩
  have HFB : Hid (b0 = true ↔ Few l) := hb0
  clear hb0
  cases b0 with
  | false =>
    go_wp2
    go_ret
    exact ⟨rfl, by rw [HG.out]; exact HBF.out _ HB01.out⟩
  | true =>
  have HFW : Hid (Few l) := hid (HFB.out.1 rfl)
  clear HFB C7
  have Q1 : Hid (QS G 0 (G + 1) 0 RP RQ w0) := hid (HQQ.out _ HB01.out)
  have C18 : Hid (Calls Tryd.prog 18 #[.slice a n cap, .agg RP.toArray, .agg RQ.toArray] w0 (PostBa l p q w0)) := hid (by
    have := bases_any HH51.out a cap l (HPN.out _ HB01.out) (HWF.out _ HB01.out) HFW.out.1 HFW.out.2 p q HPW.out HQW.out
    unfold idV at this
    rw [HN.out, HRP.out, HRQ.out] at this
    exact this)
  go_wp2_with (first
    | refine wpList_load_mid rfl 42 _ rfl G 0 rfl RP _ Q1.out.r0 Tryd.underlying42 rfl hiP ?_
    | refine wpList_load_mid rfl 42 _ rfl (G + 1) 0 rfl RQ _ Q1.out.r1 Tryd.underlying42 rfl hiQ ?_
    | fail)
  refine C18.out.mono ?_
  rintro ev w2 ⟨hb2, hres⟩
  have HB2 : Hid (Below (G + 2) w0 w2) := hid (hb2.mono (HSZ.out _ HB01.out))
  obtain ⟨xa, xc, X, ex, hev, HXP, HXI, HXL, HRES⟩ : ∃ (xa : Option Addr) (xc : Nat) (X : List (List Int)) (ex : Value), ev = .returned (.tuple #[.slice xa X.length xc, ex]) ∧ Hid (Pa w2 xa xc X) ∧ Hid (∀ z ∈ X, IdW z) ∧ Hid (X.length ≤ 40) ∧ Hid ((In2 l p q ∧ Lst' (Tp l (Bth l p q)) X ∧ X.Pairwise (fun x y => ¬ Lib.bytesOf y < Lib.bytesOf x) ∧ ex = .nilIface) ∨ (¬ In2 l p q ∧ X = [] ∧ ex = .iface 30 (.int .i64 80))) := by
    rcases hres with ⟨hin, xa, xc, xs, rfl, h1, h2, h3⟩ | ⟨hno, rfl⟩
    · have hsub : ∀ z ∈ xs, z ∈ ids l := fun z hz => rch_in hin.1.par (fun u hu => hin.2 u (by rw [List.mem_singleton.1 hu]; simp)) z ((h1.all z (h1.idw z hz)).1 hz).1.1
      have hlen := nodup_sub xs (ids l) h1.one hsub
      have h40 : (ids l).length = l.length := by unfold ids; rw [List.length_map]
      exact ⟨xa, xc, xs, .nilIface, rfl, h3, h1.idw, hid (by have := HFW.out.1; omega), hid (.inl ⟨hin, h1, h2, rfl⟩)⟩
    · exact ⟨none, 0, [], _, rfl, hid ⟨Nat.le_refl _, fun h => by simp at h, fun _ => rfl⟩, hid (fun z hz => by cases hz), hid (by simp), hid (.inr ⟨hno, rfl, rfl⟩)⟩
  subst hev
  obtain ⟨nx, HNX⟩ : ∃ n, Hid (X.length = n) := ⟨_, rfl⟩
  have hnx40 : nx ≤ 40 := by rw [← HNX.out]; exact HXL.out
  rw [HNX.out]
  have Q2 : Hid (QS G 0 (G + 1) 0 RP RQ w2) := hid (HQQ.out _ HB2.out)
  have D18 : Hid (Calls Tryd.prog 18 #[.slice a n cap, .agg RQ.toArray, .agg RP.toArray] w2 (PostBa l q p w2)) := hid (by
    have := bases_any HH51.out a cap l (HPN.out _ HB2.out) (HWF.out _ HB2.out) HFW.out.1 HFW.out.2 q p HQW.out HPW.out
    unfold idV at this
    rw [HN.out, HRP.out, HRQ.out] at this
    exact this)
  clear hb2 hres C18
  go_wp2_with (first
    | refine wpList_load_mid rfl 42 _ rfl G 0 rfl RP _ Q2.out.r0 Tryd.underlying42 rfl hiP ?_
    | refine wpList_load_mid rfl 42 _ rfl (G + 1) 0 rfl RQ _ Q2.out.r1 Tryd.underlying42 rfl hiQ ?_
    | fail)
  refine D18.out.mono ?_
  rintro ev w3 ⟨hb3, hres⟩
  have HB3 : Hid (Below (G + 2) w0 w3) := hid (HB2.out.trans (hb3.mono (HSZ.out _ HB2.out)))
  have HXP3 : Hid (Pa w3 xa xc X) := hid (HXP.out.below hb3)
  obtain ⟨ya, yc, hev, HYP⟩ : ∃ (ya : Option Addr) (yc : Nat), ev = .returned (.tuple #[.slice ya X.length yc, ex]) ∧ Hid (Pa w3 ya yc X) := by
    rcases hres with ⟨hin, ya, yc, ys, rfl, h1, h2, h3⟩ | ⟨hno, rfl⟩
    · rcases HRES.out with ⟨_, k1, k2, rfl⟩ | ⟨k1, _⟩
      · have e : X = ys := lst_one (tp_congr (fun z => Bth.comm)) k1 h1 k2 h2
        subst e
        exact ⟨ya, yc, rfl, h3⟩
      · exact absurd (In2.comm.1 hin) k1
    · rcases HRES.out with ⟨k1, _⟩ | ⟨_, rfl, rfl⟩
      · exact absurd (In2.comm.1 k1) hno
      · exact ⟨none, 0, rfl, hid ⟨Nat.le_refl _, fun h => by simp at h, fun _ => rfl⟩⟩
  subst hev
  rw [HNX.out]
  have C13 : Hid (Calls Tryd.prog 13 #[.slice ya nx yc] w3 fun e w' => ∃ v, e = .returned v ∧ Bi 41 w3 w' w3.heap.size v X) := hid (by
    have := plain_any ya yc X HYP.out HXI.out (by rw [HNX.out]; omega)
    rw [HNX.out] at this
    exact this)
  clear hb3 hres D18
  go_wp2_with fail
  refine C13.out.mono ?_
  rintro ev w4 ⟨v4, rfl, hbi4⟩
  have HB4 : Hid (Below (G + 2) w0 w4) := hid (HB3.out.trans (hbi4.below.mono (HSZ.out _ HB3.out)))
  have HXP4 : Hid (Pa w4 xa xc X) := hid (HXP3.out.below hbi4.below)
  obtain ⟨za, zc, hve4, hvp4, _, _⟩ := hbi4.px (d := []) (fun z hz => by rw [row_len]; exact (HXI.out z hz).1)
  rw [HNX.out] at hve4
  subst hve4
  have C15 : Hid (Calls Tryd.prog 15 #[.slice xa nx xc, .slice za nx zc] w4 fun e w' => BI (X = X) e ∧ Below w4.heap.size w4 w') := hid (by
    have h40 := HXL.out
    have := same_any xa xc X HXP4.out HXI.out za zc X hvp4 HXI.out (by omega) (by omega)
    rw [HNX.out] at this
    exact this)
  clear hbi4 hvp4 C13
  go_wp2_with fail
  refine C15.out.mono ?_
  rintro ev w5 ⟨⟨bs, hbs, rfl⟩, hb5⟩
  have hbt : bs = true := by simpa using hbs
  subst hbt
  have HB5 : Hid (Below (G + 2) w0 w5) := hid (HB4.out.trans (hb5.mono (HSZ.out _ HB4.out)))
  have HXP5 : Hid (Pa w5 xa xc X) := hid (HXP4.out.below hb5)
  clear hbs hb5 C15
  rcases HRES.out with ⟨hin, hlst, hpw, rfl⟩ | ⟨hno, hXe, rfl⟩
  rotate_left
  · -- no graph, or ids that are none
    have T5 : Hid (∀ V, Below (G + 2) w0 V → Calls Tryd.prog 11 #[.iface 30 (.int .i64 80)] V fun e w' => e = .returned (.int .i64 80) ∧ Below V.heap.size V w') := fun V hV => tell_errno 80 V (HGD.out V hV)
    have hnx0 : nx = 0 := by rw [← HNX.out, hXe]; rfl
    subst hnx0
    have C1 := T5.out w5 HB5.out
    have C11 : Hid (Calls Tryd.prog 11 #[.iface 30 (.int .i64 80)] w5 fun e w' => e = .returned (.int .i64 80) ∧ Below w5.heap.size w5 w') := C1
    clear C1 HRES
    go_wp2_with fail
    refine C11.out.mono ?_
    rintro ev w6 ⟨rfl, hb6⟩
    have HB6 : Hid (Below (G + 2) w0 w6) := hid (HB5.out.trans (hb6.mono (HSZ.out _ HB5.out)))
    have D11 : Hid (Calls Tryd.prog 11 #[.iface 30 (.int .i64 80)] w6 fun e w' => e = .returned (.int .i64 80) ∧ Below w6.heap.size w6 w') := hid (T5.out w6 HB6.out)
    clear hb6 C11
    go_wp2_with fail
    refine D11.out.mono ?_
    rintro ev w7 ⟨rfl, hb7⟩
    have HB7 : Hid (Below (G + 2) w0 w7) := hid (HB6.out.trans (hb7.mono (HSZ.out _ HB6.out)))
    have E11 : Hid (Calls Tryd.prog 11 #[.iface 30 (.int .i64 80)] w7 fun e w' => e = .returned (.int .i64 80) ∧ Below w7.heap.size w7 w') := hid (T5.out w7 HB7.out)
    clear hb7 D11
    go_wp2_with fail
    refine E11.out.mono ?_
    rintro ev w8 ⟨rfl, hb8⟩
    have HB8 : Hid (Below (G + 2) w0 w8) := hid (HB7.out.trans (hb8.mono (HSZ.out _ HB7.out)))
    have F11 : Hid (Calls Tryd.prog 11 #[.iface 30 (.int .i64 80)] w8 fun e w' => e = .returned (.int .i64 80) ∧ Below w8.heap.size w8 w') := hid (T5.out w8 HB8.out)
    clear hb8 E11
    go_wp2_with fail
    refine F11.out.mono ?_
    rintro ev w9 ⟨rfl, hb9⟩
    have HB9 : Hid (Below (G + 2) w0 w9) := hid (HB8.out.trans (hb9.mono (HSZ.out _ HB8.out)))
    clear hb9 F11
    go_wp2
    go_ret
    exact ⟨rfl, by rw [HG.out]; exact HBF.out _ HB9.out⟩
  have HIN : Hid (In2 l p q) := hin
  have HLST : Hid (Lst' (Tp l (Bth l p q)) X) := hlst
  clear hin hlst hpw HRES
  have C11 : Hid (Calls Tryd.prog 11 #[.nilIface] w5 fun e w' => e = .returned (.int .i64 0) ∧ Below w5.heap.size w5 w') := tell_nil w5
  go_wp2_with fail
  refine C11.out.mono ?_
  rintro ev w6 ⟨rfl, hb6⟩
  have HB6 : Hid (Below (G + 2) w0 w6) := hid (HB5.out.trans (hb6.mono (HSZ.out _ HB5.out)))
  have HXP6 : Hid (Pa w6 xa xc X) := hid (HXP5.out.below hb6)
  have D11 : Hid (Calls Tryd.prog 11 #[.nilIface] w6 fun e w' => e = .returned (.int .i64 0) ∧ Below w6.heap.size w6 w') := tell_nil w6
  clear hb6 C11
  go_wp2_with fail
  refine D11.out.mono ?_
  rintro ev w7 ⟨rfl, hb7⟩
  have HB7 : Hid (Below (G + 2) w0 w7) := hid (HB6.out.trans (hb7.mono (HSZ.out _ HB6.out)))
  have HXP7 : Hid (Pa w7 xa xc X) := hid (HXP6.out.below hb7)
  have E11 : Hid (Calls Tryd.prog 11 #[.nilIface] w7 fun e w' => e = .returned (.int .i64 0) ∧ Below w7.heap.size w7 w') := tell_nil w7
  clear hb7 D11
  go_wp2_with fail
  refine E11.out.mono ?_
  rintro ev w8 ⟨rfl, hb8⟩
  have HB8 : Hid (Below (G + 2) w0 w8) := hid (HB7.out.trans (hb8.mono (HSZ.out _ HB7.out)))
  have HXP8 : Hid (Pa w8 xa xc X) := hid (HXP7.out.below hb8)
  clear hb8 E11
  have Q8 : Hid (QS G 0 (G + 1) 0 RP RQ w8) := hid (HQQ.out _ HB8.out)
  obtain ⟨K8, HK8⟩ : ∃ K, Hid (w8.heap.size = K) := ⟨_, rfl⟩
  obtain ⟨v8, HV8⟩ : ∃ u, Hid (w8.alloc (.cells (row .u8 p ++ row .u8 q).toArray 42) = u) := ⟨_, rfl⟩
  have HBS : Hid ((Instr.buildSlice 32 2 #[(0, .agg RP.toArray), (1, .agg RQ.toArray)]).run Tryd.prog w8 = .ok (.slice (some ⟨K8, 0, none⟩) 2 2) v8) := hid (by
    rw [← HV8.out, ← HK8.out, ← HRP.out, ← HRQ.out]
    exact run_build32b p q HPW.out.1 HQW.out.1 w8)
  have hbv8 : Below w8.heap.size w8 v8 := by rw [← HV8.out]; exact (Below.refl _ w8).alloc (Nat.le_refl _) _
  have HBv8 : Hid (Below (G + 2) w0 v8) := hid (HB8.out.trans (hbv8.mono (HSZ.out _ HB8.out)))
  have HXPv : Hid (Pa v8 xa xc X) := hid (HXP8.out.below hbv8)
  have C12 : Hid (Calls Tryd.prog 12 #[.slice a n cap, .slice (some ⟨K8, 0, none⟩) 2 2, .slice none 0 0] v8 (PostOr l [p, q] [] v8)) := hid (by
    have := order_any a cap l (HPN.out _ HBv8.out) (HWF.out _ HBv8.out) HFW.out.1 HFW.out.2 (some ⟨K8, 0, none⟩) 2 [p, q] (by rw [← HV8.out, ← HK8.out]; exact pa_two w8 p q HPW.out.1 42) none 0 [] ⟨Nat.le_refl _, fun h => by simp at h, fun _ => rfl⟩ (fun z hz => by
      rw [List.append_nil] at hz
      rcases List.mem_cons.1 hz with rfl | hz
      · exact HPW.out
      · rw [List.mem_singleton.1 hz]; exact HQW.out) (by simp)
    rw [HN.out] at this
    exact this)
  clear hbv8
  go_wp2_with (first
    | refine wpList_load_mid rfl 42 _ rfl G 0 rfl RP _ Q8.out.r0 Tryd.underlying42 rfl hiP ?_
    | refine wpList_load_mid rfl 42 _ rfl (G + 1) 0 rfl RQ _ Q8.out.r1 Tryd.underlying42 rfl hiQ ?_
    | refine wpList_run rfl _ (exec_bS2 32 2 _ _ rfl (.agg RP.toArray) (.agg RQ.toArray) _ rfl rfl HBS.out) ?_
    | fail)
  refine C12.out.mono ?_
  rintro ev w9' ⟨hb9, hres⟩
  have HB9' : Hid (Below (G + 2) w0 w9') := hid (HBv8.out.trans (hb9.mono (HSZ.out _ HBv8.out)))
  have HXP9' : Hid (Pa w9' xa xc X) := hid (HXPv.out.below hb9)
  obtain ⟨oa, oc, no, hno0, hev⟩ : ∃ (oa : Option Addr) (oc no : Nat), 0 < no ∧ ev = .returned (.tuple #[.slice oa no oc, .nilIface]) := by
    rcases hres with ⟨hok, f, v, I, Bo, hf, hI, rfl, _, hbi⟩ | ⟨hno, _⟩
    · obtain ⟨oa, oc, hve⟩ := owns_shape hbi.own
      refine ⟨oa, oc, I.length, ?_, by rw [hve]⟩
      obtain ⟨x, hx, e⟩ := List.mem_map.1 (HIN.out.2 p (by simp))
      have hfx : f x = true := (hf x).2 ⟨by rw [show x.id = p from e]; exact Rch.of (by simp), fun h => by
        obtain ⟨z, hz, _⟩ := h.from
        cases hz⟩
      have hm : x.id ∈ I := hI.2 x.id (mem_ids (List.mem_filter.2 ⟨hx, hfx⟩))
      exact List.length_pos_of_mem hm
    · exact absurd ⟨HIN.out.1, by rw [List.append_nil]; exact HIN.out.2⟩ hno
  subst hev
  have hnoi : ¬ (no : Int) = 0 := by omega
  have hnob : ((no : Int) == 0) = false := by rw [beq_eq_false_iff_ne]; exact hnoi
  have Q9 : Hid (QS G 0 (G + 1) 0 RP RQ w9') := hid (HQQ.out _ HB9'.out)
  have HCR : Hid (∀ V, Below (G + 2) w0 V → ∀ u v U Z, Hid (row .u8 u = U) → Hid (row .u8 v = Z) → IdW u → IdW v → u ∈ ids l → v ∈ ids l → Calls Tryd.prog 16 #[.slice a n cap, .agg U.toArray, .agg Z.toArray] V fun e w' => ∃ b : Bool, (b = true ↔ Rch l (· ∈ [u]) v) ∧ e = .returned (.tuple #[.bool b, .nilIface]) ∧ Below V.heap.size V w') := fun V hV u v U Z hU hZ hu hv hui hvi => by
    have := reaches_any a cap l (HPN.out V hV) (HWF.out V hV) HFW.out.1 HFW.out.2 u v hu hv
    unfold idV at this
    rw [HN.out, hU.out, hZ.out] at this
    refine this.mono ?_
    rintro e w' ⟨hb, ⟨_, b, h1, h2⟩ | ⟨hno, _⟩⟩
    · exact ⟨b, h1, h2, hb⟩
    · refine absurd ⟨HIN.out.1, fun z hz => ?_⟩ hno
      rcases List.mem_cons.1 hz with rfl | hz
      · exact hui
      · rw [List.mem_singleton.1 hz]; exact hvi
  have C16 : Hid (Calls Tryd.prog 16 #[.slice a n cap, .agg RP.toArray, .agg RP.toArray] w9' fun e w' => ∃ b : Bool, (b = true ↔ Rch l (· ∈ [p]) p) ∧ e = .returned (.tuple #[.bool b, .nilIface]) ∧ Below w9'.heap.size w9' w') := hid (HCR.out w9' HB9'.out p p RP RP HRP HRP HPW.out HPW.out (HIN.out.2 p (by simp)) (HIN.out.2 p (by simp)))
  clear hb9 hres C12
  go_wp2_with (first
    | refine wpList_load_mid rfl 42 _ rfl G 0 rfl RP _ Q9.out.r0 Tryd.underlying42 rfl hiP ?_
    | fail)
  refine C16.out.mono ?_
  rintro ev w10 ⟨b10, hb10, rfl, hbl10⟩
  have hbt10 : b10 = true := hb10.2 (Rch.self l p)
  subst hbt10
  have HB10 : Hid (Below (G + 2) w0 w10) := hid (HB9'.out.trans (hbl10.mono (HSZ.out _ HB9'.out)))
  have HXP10 : Hid (Pa w10 xa xc X) := hid (HXP9'.out.below hbl10)
  have F11 : Hid (Calls Tryd.prog 11 #[.nilIface] w10 fun e w' => e = .returned (.int .i64 0) ∧ Below w10.heap.size w10 w') := tell_nil w10
  clear hb10 hbl10 C16
  go_wp2_with fail
  refine F11.out.mono ?_
  rintro ev w9 ⟨rfl, hb9⟩
  obtain ⟨G9, HG9e⟩ : ∃ K, Hid (w9.heap.size = K) := ⟨_, rfl⟩
  have hB9 : Below (G + 2) w0 w9 := HB10.out.trans (hb9.mono (HSZ.out _ HB10.out))
  have HBB : Hid (∀ V, Below G9 w9 V → Below (G + 2) w0 V) := fun V hV => hB9.trans (hV.mono (by rw [← HG9e.out]; exact HSZ.out _ hB9))
  have hXP9 := HXP10.out.below hb9
  have HXA : Hid (∀ V, Below G9 w9 V → Pa V xa xc X) := fun V hV => hXP9.below (by rw [HG9e.out]; exact hV)
  have HG9 : Hid (∀ V, Below G9 w9 V → G9 ≤ V.heap.size) := fun V hV => by have := hV.size; have := HG9e.out; omega
  have HXPL : Hid (0 < nx → ∃ b off, xa = some ⟨b, off, none⟩) := fun h0 => by
    obtain ⟨b, off, e1, _⟩ := hXP9.at_ (by rw [HNX.out]; exact h0)
    exact ⟨b, off, e1⟩
  have HSUB : Hid (∀ z ∈ X, z ∈ ids l) := fun z hz => rch_in HIN.out.1.par (fun u hu => HIN.out.2 u (by rw [List.mem_singleton.1 hu]; simp)) z ((HLST.out.all z (HLST.out.idw z hz)).1 hz).1.1
  have HPI : Hid (p ∈ ids l) := hid (HIN.out.2 p (by simp))
  have HQI : Hid (q ∈ ids l) := hid (HIN.out.2 q (by simp))
  have HBI : Hid (∀ y ∈ l, (Bth l p q y.id ↔ ∃ z ∈ X, Rch l (· ∈ [z]) y.id)) := fun y hy => bth_iff HIN.out.1 HLST.out (fun z hz => rch_in HIN.out.1.par (fun u hu => HIN.out.2 u (by rw [List.mem_singleton.1 hu]; simp)) z hz.1) HIW.out y hy
  have HB0 : Hid (Below G9 w9 w9) := hid (Below.refl _ _)
  have hn40 : n ≤ 40 := by rw [← HN.out]; exact HFW.out.1
  clear hb9 hB9 hXP9 F11
  go_wp2_with fail
  go_loopg [18] n (fun gg iv wr => ∃ i : Nat, i ≤ n ∧ gg = n - i ∧ iv = .int .i64 i ∧ Hid (Below G9 w9 wr))
  case atStart => exact ⟨0, Nat.zero_le _, rfl, rfl, HB0⟩
  case round =>
    clear HB0
    obtain ⟨i, hi, hgi, rfl, HB⟩ := hrel
    by_cases hlt : i < n
    rotate_left
    · have hlti : ¬ (i : Int) < (n : Int) := by omega
      go_wp2
      go_ret
      exact ⟨rfl, by rw [HG.out]; exact HBF.out _ (HBB.out _ HB.out)⟩
    have hlti : (i : Int) < (n : Int) := by omega
    obtain ⟨b, off, hae⟩ := HPL.out (by omega)
    subst hae
    obtain ⟨x, HX⟩ : ∃ x, Hid (l.getD i nd0 = x) := ⟨_, rfl⟩
    have HXM : Hid (x ∈ l) := hid (by rw [← HX.out]; exact getD_mem l i _ (by rw [HN.out]; exact hlt))
    have HXW : Hid (IdW x.id) := HIW.out x HXM.out
    have HXN : Hid (x.id ∈ ids l) := hid (mem_ids HXM.out)
    obtain ⟨RX, HRX⟩ : ∃ R : List Value, Hid (row .u8 x.id = R) := ⟨_, rfl⟩
    have hiX : (Tryd.prog.info? 42).map (·.size) = some RX.length := by rw [← HRX.out, row_len, HXW.out.1]; exact Tryd.size42
    have HRNG : Hid (∀ V, Below G9 w9 V → V.rangeAt b (off + i * 22) (ndV x)) := fun V hV => by
      obtain ⟨b', off', e1, _, e3⟩ := (HPN.out V (HBB.out V hV)).at_ (by rw [HN.out]; omega)
      cases e1
      have := e3 i (by rw [HN.out]; exact hlt)
      rw [HX.out] at this
      exact this
    have HRI : Hid (∀ V, Below G9 w9 V → V.rangeAt b (off + i * 22) RX) := fun V hV => by rw [← HRX.out]; exact nd_id (HRNG.out V hV)
    obtain ⟨kk, HK⟩ : ∃ k, Hid (x.ps.length = k) := ⟨_, rfl⟩
    have hk40 : kk ≤ 40 := by rw [← HK.out]; exact HFW.out.2 x HXM.out
    obtain ⟨pa, HPa⟩ : ∃ k, Hid (x.pa = k) := ⟨_, rfl⟩
    obtain ⟨pc, HPc⟩ : ∃ k, Hid (x.pc = k) := ⟨_, rfl⟩
    have HCELL : Hid (∀ V, Below G9 w9 V → V.cell? ⟨b, off + i * 22 + 20, none⟩ = some (.slice pa kk pc)) := fun V hV => by
      have := nd_ps (HRNG.out V hV) HXW.out.1
      rw [HPa.out, HK.out, HPc.out] at this
      exact this
    have HPM : Hid (∀ V, Below G9 w9 V → Pa V pa pc x.ps) := fun V hV => by have := (HWF.out V (HBB.out V hV) x HXM.out).mem; rw [HPa.out, HPc.out] at this; exact this
    have HPPI : Hid (∀ z ∈ x.ps, IdW z) := (HWF.out wr (HBB.out _ HB.out) x HXM.out).ps
    have HPLP : Hid (0 < kk → ∃ b off, pa = some ⟨b, off, none⟩) := fun h0 => by
      obtain ⟨b, off, e1, e2, _⟩ := (HPM.out wr HB.out).at_ (by rw [HK.out]; exact h0)
      exact ⟨b, off, e1⟩
    have HSP : Hid (∀ V, Below G9 w9 V → QS G 0 b (off + i * 22) RP RX V) := fun V hV => ⟨(HQQ.out V (HBB.out V hV)).r0, HRI.out V hV⟩
    have HSQ : Hid (∀ V, Below G9 w9 V → QS (G + 1) 0 b (off + i * 22) RQ RX V) := fun V hV => ⟨(HQQ.out V (HBB.out V hV)).r1, HRI.out V hV⟩
    go_wp2_with fail
    go_loopg [19] kk (fun gg jv wr => ∃ j : Nat, j ≤ kk ∧ gg = kk - j ∧ jv = .int .i64 j ∧ Hid (Below G9 w9 wr))
    case atStart => exact ⟨0, Nat.zero_le _, rfl, rfl, HB⟩
    case round =>
      clear HB
      obtain ⟨j, hj, hgj, rfl, HB⟩ := hrel
      have hcl1 := HCELL.out wr HB.out
      by_cases hjk : j < kk
      · have hjki : (j : Int) < (kk : Int) := by omega
        obtain ⟨pb, po, hpe⟩ := HPLP.out (by omega)
        subst hpe
        obtain ⟨z, HZ⟩ : ∃ q, Hid (x.ps.getD j [] = q) := ⟨_, rfl⟩
        have HZM : Hid (z ∈ x.ps) := hid (by rw [← HZ.out]; exact getD_mem _ j _ (by rw [HK.out]; exact hjk))
        have HZW : Hid (IdW z) := HPPI.out z HZM.out
        obtain ⟨RZ, HRZ⟩ : ∃ R : List Value, Hid (row .u8 z = R) := ⟨_, rfl⟩
        have hiZ : (Tryd.prog.info? 42).map (·.size) = some RZ.length := by rw [← HRZ.out, row_len, HZW.out.1]; exact Tryd.size42
        have HS22 : Hid (∀ V, Below G9 w9 V → QV b (off + i * 22) pb (po + j * 20) (.slice (some ⟨pb, po, none⟩) kk pc) RX RZ V) := fun V hV => ⟨HRI.out V hV, HCELL.out V hV, by
          obtain ⟨b', off', e1, _, e3⟩ := (HPM.out V hV).at_ (by rw [HK.out]; omega)
          cases e1
          have := e3 j (by rw [HK.out]; exact hjk)
          rw [HZ.out, HRZ.out] at this
          exact this⟩
        have HBd : Hid (Below G9 w9 wr.drew) := hid (below_drewH HB.out 1)
        go_wp2_with fail
        refine wp_region_held_drew (S := QV b (off + i * 22) pb (po + j * 20) (.slice (some ⟨pb, po, none⟩) kk pc) RX RZ) (by kernel_rfl) (HS22.out _ HBd.out) (fun hHeld => ?_)
        generalize wr.drew = u0 at hHeld HBd ⊢
        refine takeL (i := 0) (v := ?_) rfl (by kernel_rfl) (by kernel_rfl) (by kernel_rfl) (fun _ _ _ h => h) (Or.inl ⟨by rfl, ?_⟩) hHeld ?_
        rotate_left
        · rintro w' ⟨r0, c1, r1⟩; go_simp; rfl
        try simp only [Act.put, List.setIfInBounds_toArray, List.set_cons_zero, List.set_cons_succ]
        refine takeL (i := 1) (v := ?_) rfl (by kernel_rfl) (by kernel_rfl) (by kernel_rfl) (fun _ _ _ h => h) (Or.inl ⟨by rfl, ?_⟩) hHeld ?_
        rotate_left
        · rintro w' ⟨r0, c1, r1⟩; go_simp; rfl
        try simp only [Act.put, List.setIfInBounds_toArray, List.set_cons_zero, List.set_cons_succ]
        refine takeL (i := 2) (v := ?_) rfl (by kernel_rfl) (by kernel_rfl) (by kernel_rfl) (fun _ _ _ h => h) (Or.inl ⟨by rfl, ?_⟩) hHeld ?_
        rotate_left
        · rintro w' ⟨r0, c1, r1⟩; go_simp; rfl
        try simp only [Act.put, List.setIfInBounds_toArray, List.set_cons_zero, List.set_cons_succ]
        refine takeL (i := 3) (v := ?_) rfl (by kernel_rfl) (by kernel_rfl) (by kernel_rfl) (fun _ _ _ h => h) (Or.inl ⟨by rfl, ?_⟩) hHeld ?_
        rotate_left
        · rintro w' ⟨r0, c1, r1⟩; go_simp; rfl
        try simp only [Act.put, List.setIfInBounds_toArray, List.set_cons_zero, List.set_cons_succ]
        refine takeL (i := 4) (v := ?_) rfl (by kernel_rfl) (by kernel_rfl) (by kernel_rfl) (fun _ _ _ h => h) (Or.inl ⟨by rfl, ?_⟩) hHeld ?_
        rotate_left
        · rintro w' ⟨r0, c1, r1⟩; go_simp; rfl
        try simp only [Act.put, List.setIfInBounds_toArray, List.set_cons_zero, List.set_cons_succ]
        refine takeL (i := 5) (v := .agg RX.toArray) rfl (by kernel_rfl) (by kernel_rfl) (by kernel_rfl) (fun _ _ _ h => h) (yieldsIf_load_mid (by kernel_rfl) 42 _ rfl b (off + i * 22) (by rfl) RX _ (fun w' h => h.r0) Tryd.underlying42 rfl hiX) hHeld ?_
        try simp only [Act.put, List.setIfInBounds_toArray, List.set_cons_zero, List.set_cons_succ]
        refine takeL (i := 6) (v := ?_) rfl (by kernel_rfl) (by kernel_rfl) (by kernel_rfl) (fun _ _ _ h => h) (Or.inl ⟨by rfl, ?_⟩) hHeld ?_
        rotate_left
        · rintro w' ⟨r0, c1, r1⟩; go_simp; rfl
        try simp only [Act.put, List.setIfInBounds_toArray, List.set_cons_zero, List.set_cons_succ]
        refine takeL (i := 7) (v := ?_) rfl (by kernel_rfl) (by kernel_rfl) (by kernel_rfl) (fun _ _ _ h => h) (Or.inl ⟨by rfl, ?_⟩) hHeld ?_
        rotate_left
        · rintro w' ⟨r0, c1, r1⟩; go_simp; rfl
        try simp only [Act.put, List.setIfInBounds_toArray, List.set_cons_zero, List.set_cons_succ]
        refine takeL (i := 8) (v := ?_) rfl (by kernel_rfl) (by kernel_rfl) (by kernel_rfl) (fun _ _ _ h => h) (Or.inl ⟨by rfl, ?_⟩) hHeld ?_
        rotate_left
        · rintro w' ⟨r0, c1, r1⟩; go_simp; rfl
        try simp only [Act.put, List.setIfInBounds_toArray, List.set_cons_zero, List.set_cons_succ]
        refine takeL (i := 9) (v := ?_) rfl (by kernel_rfl) (by kernel_rfl) (by kernel_rfl) (fun _ _ _ h => h) (Or.inl ⟨by rfl, ?_⟩) hHeld ?_
        rotate_left
        · rintro w' ⟨r0, c1, r1⟩; go_simp; rfl
        try simp only [Act.put, List.setIfInBounds_toArray, List.set_cons_zero, List.set_cons_succ]
        refine takeL (i := 10) (v := ?_) rfl (by kernel_rfl) (by kernel_rfl) (by kernel_rfl) (fun _ _ _ h => h) (Or.inl ⟨by rfl, ?_⟩) hHeld ?_
        rotate_left
        · rintro w' ⟨r0, c1, r1⟩; go_simp; rfl
        try simp only [Act.put, List.setIfInBounds_toArray, List.set_cons_zero, List.set_cons_succ]
        refine takeL (i := 11) (v := ?_) rfl (by kernel_rfl) (by kernel_rfl) (by kernel_rfl) (fun _ _ _ h => h) (Or.inl ⟨by rfl, ?_⟩) hHeld ?_
        rotate_left
        · rintro w' ⟨r0, c1, r1⟩; go_simp; rfl
        try simp only [Act.put, List.setIfInBounds_toArray, List.set_cons_zero, List.set_cons_succ]
        refine takeL (i := 12) (v := ?_) rfl (by kernel_rfl) (by kernel_rfl) (by kernel_rfl) (fun _ _ _ h => h) (Or.inl ⟨by rfl, ?_⟩) hHeld ?_
        rotate_left
        · rintro w' ⟨r0, c1, r1⟩; go_simp; rfl
        try simp only [Act.put, List.setIfInBounds_toArray, List.set_cons_zero, List.set_cons_succ]
        refine takeL (i := 13) (v := .agg RZ.toArray) rfl (by kernel_rfl) (by kernel_rfl) (by kernel_rfl) (fun _ _ _ h => h) (yieldsIf_load_mid (by kernel_rfl) 42 _ rfl pb (po + j * 20) (by rfl) RZ _ (fun w' h => h.r1) Tryd.underlying42 rfl hiZ) hHeld ?_
        try simp only [Act.put, List.setIfInBounds_toArray, List.set_cons_zero, List.set_cons_succ]
        have C16 : Hid (Calls Tryd.prog 16 #[.slice (some ⟨b, off, none⟩) n cap, .agg RX.toArray, .agg RZ.toArray] u0 fun e w' => ∃ b : Bool, (b = true ↔ Rch l (· ∈ [x.id]) z) ∧ e = .returned (.tuple #[.bool b, .nilIface]) ∧ Below u0.heap.size u0 w') := hid (HCR.out u0 (HBB.out _ HBd.out) x.id z RX RZ HRX HRZ HXW.out HZW.out HXN.out (HIN.out.1.par x HXM.out z HZM.out))
        refine wpAnyH_ready (rs := [14]) (by kernel_rfl) (by simp) ?_
        refine consL rfl (fun KK hKK => ?_) AllReadyH.nil
        refine step_callv (by rfl) 16 [.tmp 119, .tmp 124, .tmp 132] _ [.slice (some ⟨b, off, none⟩) n cap, .agg RX.toArray, .agg RZ.toArray] _ (by rfl) (by rfl) (enter16 _ _ _) C16.out ?_
        rintro e u1 ⟨bb, hbb, rfl, hb1⟩
        have HB1 : Hid (Below G9 w9 u1) := hid (HBd.out.trans (hb1.mono (HG9.out _ HBd.out)))
        clear hb1 C16
        refine ⟨_, rfl, ?_⟩
        refine hKK.out _ _ (HS22.out _ HB1.out) (fun hHeld => ?_)
        clear hKK KK
        try simp only [Act.put, List.setIfInBounds_toArray, List.set_cons_zero, List.set_cons_succ]
        refine takeL (i := 15) (v := ?_) rfl (by kernel_rfl) (by kernel_rfl) (by kernel_rfl) (fun _ _ _ h => h) (Or.inl ⟨by rfl, ?_⟩) hHeld ?_
        rotate_left
        · rintro w' _; go_simp; rfl
        try simp only [Act.put, List.setIfInBounds_toArray, List.set_cons_zero, List.set_cons_succ]
        refine takeL (i := 16) (v := ?_) rfl (by kernel_rfl) (by kernel_rfl) (by kernel_rfl) (fun _ _ _ h => h) (Or.inl ⟨by rfl, ?_⟩) hHeld ?_
        rotate_left
        · rintro w' _; go_simp; rfl
        try simp only [Act.put, List.setIfInBounds_toArray, List.set_cons_zero, List.set_cons_succ]
        refine takeL (i := 17) (v := ?_) rfl (by kernel_rfl) (by kernel_rfl) (by kernel_rfl) (fun _ _ _ h => h) (Or.inl ⟨by rfl, ?_⟩) hHeld ?_
        rotate_left
        · rintro w' _; go_simp; rfl
        try simp only [Act.put, List.setIfInBounds_toArray, List.set_cons_zero, List.set_cons_succ]
        refine takeL (i := 18) (v := ?_) rfl (by kernel_rfl) (by kernel_rfl) (by kernel_rfl) (fun _ _ _ h => h) (Or.inl ⟨by rfl, ?_⟩) hHeld ?_
        rotate_left
        · rintro w' _; go_simp; rfl
        try simp only [Act.put, List.setIfInBounds_toArray, List.set_cons_zero, List.set_cons_succ]
        refine takeL (i := 19) (v := ?_) rfl (by kernel_rfl) (by kernel_rfl) (by kernel_rfl) (fun _ _ _ h => h) (Or.inl ⟨by rfl, ?_⟩) hHeld ?_
        rotate_left
        · rintro w' _; go_simp; rfl
        try simp only [Act.put, List.setIfInBounds_toArray, List.set_cons_zero, List.set_cons_succ]
        refine wpAnyH_done (by kernel_rfl) ?_ _
        clear hHeld HBd
        have hbt : bb = true := hbb.2 ((Rch.self l x.id).step ⟨x, HXM.out, rfl, HZM.out⟩)
        subst hbt
        clear hbb
        go_wp2
        go_roundg (kk - (j + 1))
        case measure => omega
        case rel => exact ⟨j + 1, by omega, rfl, by go_num, HB1⟩
      · have hjki : ¬ (j : Int) < (kk : Int) := by omega
        have HBd : Hid (Below G9 w9 wr.drew) := hid (below_drewH HB.out 1)
        go_wp2_with fail
        refine wp_region_held_drew (S := QS G 0 b (off + i * 22) RP RX) (by kernel_rfl) (HSP.out _ HBd.out) (fun hHeld => ?_)
        generalize wr.drew = u0 at hHeld HBd ⊢
        refine takeL (i := 0) (v := ?_) rfl (by kernel_rfl) (by kernel_rfl) (by kernel_rfl) (fun _ _ _ h => h) (Or.inl ⟨by rfl, ?_⟩) hHeld ?_
        rotate_left
        · rintro w' ⟨r0, r1⟩; go_simp; rfl
        try simp only [Act.put, List.setIfInBounds_toArray, List.set_cons_zero, List.set_cons_succ]
        refine takeL (i := 1) (v := .agg RP.toArray) rfl (by kernel_rfl) (by kernel_rfl) (by kernel_rfl) (fun _ _ _ h => h) (yieldsIf_load_mid (by kernel_rfl) 42 _ rfl G (0) (by rfl) RP _ (fun w' h => h.r0) Tryd.underlying42 rfl hiP) hHeld ?_
        try simp only [Act.put, List.setIfInBounds_toArray, List.set_cons_zero, List.set_cons_succ]
        refine takeL (i := 2) (v := ?_) rfl (by kernel_rfl) (by kernel_rfl) (by kernel_rfl) (fun _ _ _ h => h) (Or.inl ⟨by rfl, ?_⟩) hHeld ?_
        rotate_left
        · rintro w' ⟨r0, r1⟩; go_simp; rfl
        try simp only [Act.put, List.setIfInBounds_toArray, List.set_cons_zero, List.set_cons_succ]
        refine takeL (i := 3) (v := ?_) rfl (by kernel_rfl) (by kernel_rfl) (by kernel_rfl) (fun _ _ _ h => h) (Or.inl ⟨by rfl, ?_⟩) hHeld ?_
        rotate_left
        · rintro w' ⟨r0, r1⟩; go_simp; rfl
        try simp only [Act.put, List.setIfInBounds_toArray, List.set_cons_zero, List.set_cons_succ]
        refine takeL (i := 4) (v := ?_) rfl (by kernel_rfl) (by kernel_rfl) (by kernel_rfl) (fun _ _ _ h => h) (Or.inl ⟨by rfl, ?_⟩) hHeld ?_
        rotate_left
        · rintro w' ⟨r0, r1⟩; go_simp; rfl
        try simp only [Act.put, List.setIfInBounds_toArray, List.set_cons_zero, List.set_cons_succ]
        refine takeL (i := 5) (v := ?_) rfl (by kernel_rfl) (by kernel_rfl) (by kernel_rfl) (fun _ _ _ h => h) (Or.inl ⟨by rfl, ?_⟩) hHeld ?_
        rotate_left
        · rintro w' ⟨r0, r1⟩; go_simp; rfl
        try simp only [Act.put, List.setIfInBounds_toArray, List.set_cons_zero, List.set_cons_succ]
        refine takeL (i := 6) (v := .agg RX.toArray) rfl (by kernel_rfl) (by kernel_rfl) (by kernel_rfl) (fun _ _ _ h => h) (yieldsIf_load_mid (by kernel_rfl) 42 _ rfl b (off + i * 22) (by rfl) RX _ (fun w' h => h.r1) Tryd.underlying42 rfl hiX) hHeld ?_
        try simp only [Act.put, List.setIfInBounds_toArray, List.set_cons_zero, List.set_cons_succ]
        have C16 : Hid (Calls Tryd.prog 16 #[.slice (some ⟨b, off, none⟩) n cap, .agg RP.toArray, .agg RX.toArray] u0 fun e w' => ∃ b : Bool, (b = true ↔ Rch l (· ∈ [p]) x.id) ∧ e = .returned (.tuple #[.bool b, .nilIface]) ∧ Below u0.heap.size u0 w') := hid (HCR.out u0 (HBB.out _ HBd.out) p x.id RP RX HRP HRX HPW.out HXW.out HPI.out HXN.out)
        refine wpAnyH_ready (rs := [7]) (by kernel_rfl) (by simp) ?_
        refine consL rfl (fun KK hKK => ?_) AllReadyH.nil
        refine step_callv (by rfl) 16 [.tmp 139, .tmp 140, .tmp 145] _ [.slice (some ⟨b, off, none⟩) n cap, .agg RP.toArray, .agg RX.toArray] _ (by rfl) (by rfl) (enter16 _ _ _) C16.out ?_
        rintro e u1 ⟨bb, hbb, rfl, hb1⟩
        have HB1 : Hid (Below G9 w9 u1) := hid (HBd.out.trans (hb1.mono (HG9.out _ HBd.out)))
        clear hb1 C16
        refine ⟨_, rfl, ?_⟩
        refine hKK.out _ _ (HSP.out _ HB1.out) (fun hHeld => ?_)
        clear hKK KK
        try simp only [Act.put, List.setIfInBounds_toArray, List.set_cons_zero, List.set_cons_succ]
        refine takeL (i := 8) (v := ?_) rfl (by kernel_rfl) (by kernel_rfl) (by kernel_rfl) (fun _ _ _ h => h) (Or.inl ⟨by rfl, ?_⟩) hHeld ?_
        rotate_left
        · rintro w' _; go_simp; rfl
        try simp only [Act.put, List.setIfInBounds_toArray, List.set_cons_zero, List.set_cons_succ]
        refine takeL (i := 9) (v := ?_) rfl (by kernel_rfl) (by kernel_rfl) (by kernel_rfl) (fun _ _ _ h => h) (Or.inl ⟨by rfl, ?_⟩) hHeld ?_
        rotate_left
        · rintro w' _; go_simp; rfl
        try simp only [Act.put, List.setIfInBounds_toArray, List.set_cons_zero, List.set_cons_succ]
        refine takeL (i := 10) (v := ?_) rfl (by kernel_rfl) (by kernel_rfl) (by kernel_rfl) (fun _ _ _ h => h) (Or.inl ⟨by rfl, ?_⟩) hHeld ?_
        rotate_left
        · rintro w' _; go_simp; rfl
        try simp only [Act.put, List.setIfInBounds_toArray, List.set_cons_zero, List.set_cons_succ]
        refine takeL (i := 11) (v := ?_) rfl (by kernel_rfl) (by kernel_rfl) (by kernel_rfl) (fun _ _ _ h => h) (Or.inl ⟨by rfl, ?_⟩) hHeld ?_
        rotate_left
        · rintro w' _; go_simp; rfl
        try simp only [Act.put, List.setIfInBounds_toArray, List.set_cons_zero, List.set_cons_succ]
        refine takeL (i := 12) (v := ?_) rfl (by kernel_rfl) (by kernel_rfl) (by kernel_rfl) (fun _ _ _ h => h) (Or.inl ⟨by rfl, ?_⟩) hHeld ?_
        rotate_left
        · rintro w' _; go_simp; rfl
        try simp only [Act.put, List.setIfInBounds_toArray, List.set_cons_zero, List.set_cons_succ]
        refine wpAnyH_done (by kernel_rfl) ?_ _
        clear hHeld HBd
        obtain ⟨bc, HBC⟩ : ∃ q, Hid (bb = q) := ⟨_, rfl⟩
        have hbce := HBC.out
        subst hbce
        have HC : Hid (BIff' bb (Rch l (· ∈ [p]) x.id)) := hbb
        clear hbb HB HBC hcl1
        obtain ⟨HB, -⟩ : Hid (Below G9 w9 u1) ∧ True := ⟨HB1, trivial⟩
        clear HB1
        have HBd : Hid (Below G9 w9 u1.drew) := hid (below_drewH HB.out 1)
        go_wp2_with fail
        refine wp_region_held_drew (S := QS (G + 1) 0 b (off + i * 22) RQ RX) (by kernel_rfl) (HSQ.out _ HBd.out) (fun hHeld => ?_)
        generalize u1.drew = u0 at hHeld HBd ⊢
        refine takeL (i := 0) (v := ?_) rfl (by kernel_rfl) (by kernel_rfl) (by kernel_rfl) (fun _ _ _ h => h) (Or.inl ⟨by rfl, ?_⟩) hHeld ?_
        rotate_left
        · rintro w' ⟨r0, r1⟩; go_simp; rfl
        try simp only [Act.put, List.setIfInBounds_toArray, List.set_cons_zero, List.set_cons_succ]
        refine takeL (i := 1) (v := .agg RQ.toArray) rfl (by kernel_rfl) (by kernel_rfl) (by kernel_rfl) (fun _ _ _ h => h) (yieldsIf_load_mid (by kernel_rfl) 42 _ rfl (G + 1) (0) (by rfl) RQ _ (fun w' h => h.r0) Tryd.underlying42 rfl hiQ) hHeld ?_
        try simp only [Act.put, List.setIfInBounds_toArray, List.set_cons_zero, List.set_cons_succ]
        refine takeL (i := 2) (v := ?_) rfl (by kernel_rfl) (by kernel_rfl) (by kernel_rfl) (fun _ _ _ h => h) (Or.inl ⟨by rfl, ?_⟩) hHeld ?_
        rotate_left
        · rintro w' ⟨r0, r1⟩; go_simp; rfl
        try simp only [Act.put, List.setIfInBounds_toArray, List.set_cons_zero, List.set_cons_succ]
        refine takeL (i := 3) (v := ?_) rfl (by kernel_rfl) (by kernel_rfl) (by kernel_rfl) (fun _ _ _ h => h) (Or.inl ⟨by rfl, ?_⟩) hHeld ?_
        rotate_left
        · rintro w' ⟨r0, r1⟩; go_simp; rfl
        try simp only [Act.put, List.setIfInBounds_toArray, List.set_cons_zero, List.set_cons_succ]
        refine takeL (i := 4) (v := ?_) rfl (by kernel_rfl) (by kernel_rfl) (by kernel_rfl) (fun _ _ _ h => h) (Or.inl ⟨by rfl, ?_⟩) hHeld ?_
        rotate_left
        · rintro w' ⟨r0, r1⟩; go_simp; rfl
        try simp only [Act.put, List.setIfInBounds_toArray, List.set_cons_zero, List.set_cons_succ]
        refine takeL (i := 5) (v := ?_) rfl (by kernel_rfl) (by kernel_rfl) (by kernel_rfl) (fun _ _ _ h => h) (Or.inl ⟨by rfl, ?_⟩) hHeld ?_
        rotate_left
        · rintro w' ⟨r0, r1⟩; go_simp; rfl
        try simp only [Act.put, List.setIfInBounds_toArray, List.set_cons_zero, List.set_cons_succ]
        refine takeL (i := 6) (v := .agg RX.toArray) rfl (by kernel_rfl) (by kernel_rfl) (by kernel_rfl) (fun _ _ _ h => h) (yieldsIf_load_mid (by kernel_rfl) 42 _ rfl b (off + i * 22) (by rfl) RX _ (fun w' h => h.r1) Tryd.underlying42 rfl hiX) hHeld ?_
        try simp only [Act.put, List.setIfInBounds_toArray, List.set_cons_zero, List.set_cons_succ]
        have C16 : Hid (Calls Tryd.prog 16 #[.slice (some ⟨b, off, none⟩) n cap, .agg RQ.toArray, .agg RX.toArray] u0 fun e w' => ∃ b : Bool, (b = true ↔ Rch l (· ∈ [q]) x.id) ∧ e = .returned (.tuple #[.bool b, .nilIface]) ∧ Below u0.heap.size u0 w') := hid (HCR.out u0 (HBB.out _ HBd.out) q x.id RQ RX HRQ HRX HQW.out HXW.out HQI.out HXN.out)
        refine wpAnyH_ready (rs := [7]) (by kernel_rfl) (by simp) ?_
        refine consL rfl (fun KK hKK => ?_) AllReadyH.nil
        refine step_callv (by rfl) 16 [.tmp 150, .tmp 151, .tmp 156] _ [.slice (some ⟨b, off, none⟩) n cap, .agg RQ.toArray, .agg RX.toArray] _ (by rfl) (by rfl) (enter16 _ _ _) C16.out ?_
        rintro e u2 ⟨bd, hbd, rfl, hb1⟩
        have HB1 : Hid (Below G9 w9 u2) := hid (HBd.out.trans (hb1.mono (HG9.out _ HBd.out)))
        clear hb1 C16
        refine ⟨_, rfl, ?_⟩
        refine hKK.out _ _ (HSQ.out _ HB1.out) (fun hHeld => ?_)
        clear hKK KK
        try simp only [Act.put, List.setIfInBounds_toArray, List.set_cons_zero, List.set_cons_succ]
        refine takeL (i := 8) (v := ?_) rfl (by kernel_rfl) (by kernel_rfl) (by kernel_rfl) (fun _ _ _ h => h) (Or.inl ⟨by rfl, ?_⟩) hHeld ?_
        rotate_left
        · rintro w' _; go_simp; rfl
        try simp only [Act.put, List.setIfInBounds_toArray, List.set_cons_zero, List.set_cons_succ]
        refine takeL (i := 9) (v := ?_) rfl (by kernel_rfl) (by kernel_rfl) (by kernel_rfl) (fun _ _ _ h => h) (Or.inl ⟨by rfl, ?_⟩) hHeld ?_
        rotate_left
        · rintro w' _; go_simp; rfl
        try simp only [Act.put, List.setIfInBounds_toArray, List.set_cons_zero, List.set_cons_succ]
        refine takeL (i := 10) (v := ?_) rfl (by kernel_rfl) (by kernel_rfl) (by kernel_rfl) (fun _ _ _ h => h) (Or.inl ⟨by rfl, ?_⟩) hHeld ?_
        rotate_left
        · rintro w' _; go_simp; rfl
        try simp only [Act.put, List.setIfInBounds_toArray, List.set_cons_zero, List.set_cons_succ]
        refine takeL (i := 11) (v := ?_) rfl (by kernel_rfl) (by kernel_rfl) (by kernel_rfl) (fun _ _ _ h => h) (Or.inl ⟨by rfl, ?_⟩) hHeld ?_
        rotate_left
        · rintro w' _; go_simp; rfl
        try simp only [Act.put, List.setIfInBounds_toArray, List.set_cons_zero, List.set_cons_succ]
        refine takeL (i := 12) (v := ?_) rfl (by kernel_rfl) (by kernel_rfl) (by kernel_rfl) (fun _ _ _ h => h) (Or.inl ⟨by rfl, ?_⟩) hHeld ?_
        rotate_left
        · rintro w' _; go_simp; rfl
        try simp only [Act.put, List.setIfInBounds_toArray, List.set_cons_zero, List.set_cons_succ]
        refine wpAnyH_done (by kernel_rfl) ?_ _
        clear hHeld HBd
        have HD : Hid (BIff' bd (Rch l (· ∈ [q]) x.id)) := hbd
        clear hbd HB
        have HBE0 : Hid (BIff' false (∃ z ∈ X.take 0, Rch l (· ∈ [z]) x.id)) := hid ⟨fun h => (by cases h), fun ⟨z, hz, _⟩ => by simp at hz⟩
        go_wp2_with fail
        go_loopg [26, 27] nx (fun gg bev kv wr => ∃ (k : Nat) (be : Bool), k ≤ nx ∧ gg = nx - k ∧ kv = .int .i64 k ∧ bev = .bool be ∧ Hid (BIff' be (∃ z ∈ X.take k, Rch l (· ∈ [z]) x.id)) ∧ Hid (Below G9 w9 wr))
        case atStart => exact ⟨0, false, Nat.zero_le _, rfl, rfl, rfl, HBE0, HB1⟩
        case round =>
          clear HB1 HBE0
          obtain ⟨k, be, hk, hgk, rfl, rfl, HBE, HB⟩ := hrel
          by_cases hkn : k < nx
          · have hkni : (k : Int) < (nx : Int) := by omega
            obtain ⟨xb, xo, hxe⟩ := HXPL.out (by omega)
            subst hxe
            obtain ⟨z, HZ⟩ : ∃ q, Hid (X.getD k [] = q) := ⟨_, rfl⟩
            have HZM : Hid (z ∈ X) := hid (by rw [← HZ.out]; exact getD_mem _ k _ (by rw [HNX.out]; exact hkn))
            have HZW : Hid (IdW z) := HXI.out z HZM.out
            have HZI : Hid (z ∈ ids l) := HSUB.out z HZM.out
            have HZT : Hid (Tp l (Bth l p q) z) := hid ((HLST.out.all z HZW.out).1 HZM.out)
            obtain ⟨RZ, HRZ⟩ : ∃ R : List Value, Hid (row .u8 z = R) := ⟨_, rfl⟩
            have hiZ : (Tryd.prog.info? 42).map (·.size) = some RZ.length := by rw [← HRZ.out, row_len, HZW.out.1]; exact Tryd.size42
            have HTK : Hid (X.take (k + 1) = X.take k ++ [z]) := hid (by rw [take_snocG [] X k (by rw [HNX.out]; exact hkn), HZ.out])
            have HSZ2 : Hid (∀ V, Below G9 w9 V → QS xb (xo + k * 20) b (off + i * 22) RZ RX V) := fun V hV => ⟨by
              obtain ⟨b', off', e1, _, e3⟩ := (HXA.out V hV).at_ (by rw [HNX.out]; omega)
              cases e1
              have := e3 k (by rw [HNX.out]; exact hkn)
              rw [HZ.out, HRZ.out] at this
              exact this, HRI.out V hV⟩
            have HBd : Hid (Below G9 w9 wr.drew) := hid (below_drewH HB.out 1)
            go_wp2_with fail
            refine wp_region_held_drew (S := QS xb (xo + k * 20) b (off + i * 22) RZ RX) (by kernel_rfl) (HSZ2.out _ HBd.out) (fun hHeld => ?_)
            generalize wr.drew = u0 at hHeld HBd ⊢
            refine takeL (i := 0) (v := ?_) rfl (by kernel_rfl) (by kernel_rfl) (by kernel_rfl) (fun _ _ _ h => h) (Or.inl ⟨by rfl, ?_⟩) hHeld ?_
            rotate_left
            · rintro w' ⟨r0, r1⟩; go_simp; rfl
            try simp only [Act.put, List.setIfInBounds_toArray, List.set_cons_zero, List.set_cons_succ]
            refine takeL (i := 1) (v := ?_) rfl (by kernel_rfl) (by kernel_rfl) (by kernel_rfl) (fun _ _ _ h => h) (Or.inl ⟨by rfl, ?_⟩) hHeld ?_
            rotate_left
            · rintro w' ⟨r0, r1⟩; go_simp; rfl
            try simp only [Act.put, List.setIfInBounds_toArray, List.set_cons_zero, List.set_cons_succ]
            refine takeL (i := 2) (v := ?_) rfl (by kernel_rfl) (by kernel_rfl) (by kernel_rfl) (fun _ _ _ h => h) (Or.inl ⟨by rfl, ?_⟩) hHeld ?_
            rotate_left
            · rintro w' ⟨r0, r1⟩; go_simp; rfl
            try simp only [Act.put, List.setIfInBounds_toArray, List.set_cons_zero, List.set_cons_succ]
            refine takeL (i := 3) (v := ?_) rfl (by kernel_rfl) (by kernel_rfl) (by kernel_rfl) (fun _ _ _ h => h) (Or.inl ⟨by rfl, ?_⟩) hHeld ?_
            rotate_left
            · rintro w' ⟨r0, r1⟩; go_simp; rfl
            try simp only [Act.put, List.setIfInBounds_toArray, List.set_cons_zero, List.set_cons_succ]
            refine takeL (i := 4) (v := .agg RZ.toArray) rfl (by kernel_rfl) (by kernel_rfl) (by kernel_rfl) (fun _ _ _ h => h) (yieldsIf_load_mid (by kernel_rfl) 42 _ rfl xb (xo + k * 20) (by rfl) RZ _ (fun w' h => h.r0) Tryd.underlying42 rfl hiZ) hHeld ?_
            try simp only [Act.put, List.setIfInBounds_toArray, List.set_cons_zero, List.set_cons_succ]
            refine takeL (i := 5) (v := ?_) rfl (by kernel_rfl) (by kernel_rfl) (by kernel_rfl) (fun _ _ _ h => h) (Or.inl ⟨by rfl, ?_⟩) hHeld ?_
            rotate_left
            · rintro w' ⟨r0, r1⟩; go_simp; rfl
            try simp only [Act.put, List.setIfInBounds_toArray, List.set_cons_zero, List.set_cons_succ]
            refine takeL (i := 6) (v := ?_) rfl (by kernel_rfl) (by kernel_rfl) (by kernel_rfl) (fun _ _ _ h => h) (Or.inl ⟨by rfl, ?_⟩) hHeld ?_
            rotate_left
            · rintro w' ⟨r0, r1⟩; go_simp; rfl
            try simp only [Act.put, List.setIfInBounds_toArray, List.set_cons_zero, List.set_cons_succ]
            refine takeL (i := 7) (v := ?_) rfl (by kernel_rfl) (by kernel_rfl) (by kernel_rfl) (fun _ _ _ h => h) (Or.inl ⟨by rfl, ?_⟩) hHeld ?_
            rotate_left
            · rintro w' ⟨r0, r1⟩; go_simp; rfl
            try simp only [Act.put, List.setIfInBounds_toArray, List.set_cons_zero, List.set_cons_succ]
            refine takeL (i := 8) (v := ?_) rfl (by kernel_rfl) (by kernel_rfl) (by kernel_rfl) (fun _ _ _ h => h) (Or.inl ⟨by rfl, ?_⟩) hHeld ?_
            rotate_left
            · rintro w' ⟨r0, r1⟩; go_simp; rfl
            try simp only [Act.put, List.setIfInBounds_toArray, List.set_cons_zero, List.set_cons_succ]
            refine takeL (i := 9) (v := .agg RX.toArray) rfl (by kernel_rfl) (by kernel_rfl) (by kernel_rfl) (fun _ _ _ h => h) (yieldsIf_load_mid (by kernel_rfl) 42 _ rfl b (off + i * 22) (by rfl) RX _ (fun w' h => h.r1) Tryd.underlying42 rfl hiX) hHeld ?_
            try simp only [Act.put, List.setIfInBounds_toArray, List.set_cons_zero, List.set_cons_succ]
            have C16 : Hid (Calls Tryd.prog 16 #[.slice (some ⟨b, off, none⟩) n cap, .agg RZ.toArray, .agg RX.toArray] u0 fun e w' => ∃ b : Bool, (b = true ↔ Rch l (· ∈ [z]) x.id) ∧ e = .returned (.tuple #[.bool b, .nilIface]) ∧ Below u0.heap.size u0 w') := hid (HCR.out u0 (HBB.out _ HBd.out) z x.id RZ RX HRZ HRX HZW.out HXW.out HZI.out HXN.out)
            refine wpAnyH_ready (rs := [10]) (by kernel_rfl) (by simp) ?_
            refine consL rfl (fun KK hKK => ?_) AllReadyH.nil
            refine step_callv (by rfl) 16 [.tmp 167, .tmp 171, .tmp 176] _ [.slice (some ⟨b, off, none⟩) n cap, .agg RZ.toArray, .agg RX.toArray] _ (by rfl) (by rfl) (enter16 _ _ _) C16.out ?_
            rintro e u1 ⟨br, hbr, rfl, hb1⟩
            have HB1 : Hid (Below G9 w9 u1) := hid (HBd.out.trans (hb1.mono (HG9.out _ HBd.out)))
            clear hb1 C16
            refine ⟨_, rfl, ?_⟩
            refine hKK.out _ _ (HSZ2.out _ HB1.out) (fun hHeld => ?_)
            clear hKK KK
            try simp only [Act.put, List.setIfInBounds_toArray, List.set_cons_zero, List.set_cons_succ]
            refine takeL (i := 11) (v := ?_) rfl (by kernel_rfl) (by kernel_rfl) (by kernel_rfl) (fun _ _ _ h => h) (Or.inl ⟨by rfl, ?_⟩) hHeld ?_
            rotate_left
            · rintro w' _; go_simp; rfl
            try simp only [Act.put, List.setIfInBounds_toArray, List.set_cons_zero, List.set_cons_succ]
            refine takeL (i := 12) (v := ?_) rfl (by kernel_rfl) (by kernel_rfl) (by kernel_rfl) (fun _ _ _ h => h) (Or.inl ⟨by rfl, ?_⟩) hHeld ?_
            rotate_left
            · rintro w' _; go_simp; rfl
            try simp only [Act.put, List.setIfInBounds_toArray, List.set_cons_zero, List.set_cons_succ]
            refine takeL (i := 13) (v := ?_) rfl (by kernel_rfl) (by kernel_rfl) (by kernel_rfl) (fun _ _ _ h => h) (Or.inl ⟨by rfl, ?_⟩) hHeld ?_
            rotate_left
            · rintro w' _; go_simp; rfl
            try simp only [Act.put, List.setIfInBounds_toArray, List.set_cons_zero, List.set_cons_succ]
            refine takeL (i := 14) (v := ?_) rfl (by kernel_rfl) (by kernel_rfl) (by kernel_rfl) (fun _ _ _ h => h) (Or.inl ⟨by rfl, ?_⟩) hHeld ?_
            rotate_left
            · rintro w' _; go_simp; rfl
            try simp only [Act.put, List.setIfInBounds_toArray, List.set_cons_zero, List.set_cons_succ]
            refine takeL (i := 15) (v := ?_) rfl (by kernel_rfl) (by kernel_rfl) (by kernel_rfl) (fun _ _ _ h => h) (Or.inl ⟨by rfl, ?_⟩) hHeld ?_
            rotate_left
            · rintro w' _; go_simp; rfl
            try simp only [Act.put, List.setIfInBounds_toArray, List.set_cons_zero, List.set_cons_succ]
            refine wpAnyH_done (by kernel_rfl) ?_ _
            clear hHeld HBd
            obtain ⟨be2, HB2e⟩ : ∃ q, Hid ((be || br) = q) := ⟨_, rfl⟩
            have HBE2 : Hid (BIff' be2 (∃ z ∈ X.take (k + 1), Rch l (· ∈ [z]) x.id)) := hid (by
              unfold BIff'
              rw [← HB2e.out, Bool.or_eq_true, HTK.out]
              have h1 : be = true ↔ _ := HBE.out
              rw [h1, hbr]
              constructor
              · rintro (⟨u, hu, hr⟩ | hr)
                · exact ⟨u, by simp [hu], hr⟩
                · exact ⟨z, by simp, hr⟩
              · rintro ⟨u, hu, hr⟩
                rcases List.mem_append.1 hu with h2 | h2
                · exact .inl ⟨u, h2, hr⟩
                · rw [List.mem_singleton.1 h2] at hr; exact .inr hr)
            clear hbr HB HBE
            obtain ⟨HB, -⟩ : Hid (Below G9 w9 u1) ∧ True := ⟨HB1, trivial⟩
            clear HB1
            have h32 : (if be = true then true else br) = be2 := by rw [← HB2e.out]; cases be <;> rfl
            cases be with
            | false =>
              have hbe2 : br = be2 := by simpa using h32
              subst hbe2
              clear h32 HB2e
              as_aux_lemma =>
                have HBd : Hid (Below G9 w9 u1.drew) := hid (below_drewH HB.out 1)
                go_wp2_with fail
                refine wp_region_held_drew (S := QS xb (xo + k * 20) b (off + i * 22) RZ RX) (by kernel_rfl) (HSZ2.out _ HBd.out) (fun hHeld => ?_)
                generalize u1.drew = u0 at hHeld HBd ⊢
                refine takeL (i := 0) (v := ?_) rfl (by kernel_rfl) (by kernel_rfl) (by kernel_rfl) (fun _ _ _ h => h) (Or.inl ⟨by rfl, ?_⟩) hHeld ?_
                rotate_left
                · rintro w' ⟨r0, r1⟩; go_simp; rfl
                try simp only [Act.put, List.setIfInBounds_toArray, List.set_cons_zero, List.set_cons_succ]
                refine takeL (i := 1) (v := ?_) rfl (by kernel_rfl) (by kernel_rfl) (by kernel_rfl) (fun _ _ _ h => h) (Or.inl ⟨by rfl, ?_⟩) hHeld ?_
                rotate_left
                · rintro w' ⟨r0, r1⟩; go_simp; rfl
                try simp only [Act.put, List.setIfInBounds_toArray, List.set_cons_zero, List.set_cons_succ]
                refine takeL (i := 2) (v := ?_) rfl (by kernel_rfl) (by kernel_rfl) (by kernel_rfl) (fun _ _ _ h => h) (Or.inl ⟨by rfl, ?_⟩) hHeld ?_
                rotate_left
                · rintro w' ⟨r0, r1⟩; go_simp; rfl
                try simp only [Act.put, List.setIfInBounds_toArray, List.set_cons_zero, List.set_cons_succ]
                refine takeL (i := 3) (v := ?_) rfl (by kernel_rfl) (by kernel_rfl) (by kernel_rfl) (fun _ _ _ h => h) (Or.inl ⟨by rfl, ?_⟩) hHeld ?_
                rotate_left
                · rintro w' ⟨r0, r1⟩; go_simp; rfl
                try simp only [Act.put, List.setIfInBounds_toArray, List.set_cons_zero, List.set_cons_succ]
                refine takeL (i := 4) (v := ?_) rfl (by kernel_rfl) (by kernel_rfl) (by kernel_rfl) (fun _ _ _ h => h) (Or.inl ⟨by rfl, ?_⟩) hHeld ?_
                rotate_left
                · rintro w' ⟨r0, r1⟩; go_simp; rfl
                try simp only [Act.put, List.setIfInBounds_toArray, List.set_cons_zero, List.set_cons_succ]
                refine takeL (i := 5) (v := .agg RX.toArray) rfl (by kernel_rfl) (by kernel_rfl) (by kernel_rfl) (fun _ _ _ h => h) (yieldsIf_load_mid (by kernel_rfl) 42 _ rfl b (off + i * 22) (by rfl) RX _ (fun w' h => h.r1) Tryd.underlying42 rfl hiX) hHeld ?_
                try simp only [Act.put, List.setIfInBounds_toArray, List.set_cons_zero, List.set_cons_succ]
                refine takeL (i := 6) (v := ?_) rfl (by kernel_rfl) (by kernel_rfl) (by kernel_rfl) (fun _ _ _ h => h) (Or.inl ⟨by rfl, ?_⟩) hHeld ?_
                rotate_left
                · rintro w' ⟨r0, r1⟩; go_simp; rfl
                try simp only [Act.put, List.setIfInBounds_toArray, List.set_cons_zero, List.set_cons_succ]
                refine takeL (i := 7) (v := ?_) rfl (by kernel_rfl) (by kernel_rfl) (by kernel_rfl) (fun _ _ _ h => h) (Or.inl ⟨by rfl, ?_⟩) hHeld ?_
                rotate_left
                · rintro w' ⟨r0, r1⟩; go_simp; rfl
                try simp only [Act.put, List.setIfInBounds_toArray, List.set_cons_zero, List.set_cons_succ]
                refine takeL (i := 8) (v := ?_) rfl (by kernel_rfl) (by kernel_rfl) (by kernel_rfl) (fun _ _ _ h => h) (Or.inl ⟨by rfl, ?_⟩) hHeld ?_
                rotate_left
                · rintro w' ⟨r0, r1⟩; go_simp; rfl
                try simp only [Act.put, List.setIfInBounds_toArray, List.set_cons_zero, List.set_cons_succ]
                refine takeL (i := 9) (v := .agg RZ.toArray) rfl (by kernel_rfl) (by kernel_rfl) (by kernel_rfl) (fun _ _ _ h => h) (yieldsIf_load_mid (by kernel_rfl) 42 _ rfl xb (xo + k * 20) (by rfl) RZ _ (fun w' h => h.r0) Tryd.underlying42 rfl hiZ) hHeld ?_
                try simp only [Act.put, List.setIfInBounds_toArray, List.set_cons_zero, List.set_cons_succ]
                have C16 : Hid (Calls Tryd.prog 16 #[.slice (some ⟨b, off, none⟩) n cap, .agg RX.toArray, .agg RZ.toArray] u0 fun e w' => ∃ b : Bool, (b = true ↔ Rch l (· ∈ [x.id]) z) ∧ e = .returned (.tuple #[.bool b, .nilIface]) ∧ Below u0.heap.size u0 w') := hid (HCR.out u0 (HBB.out _ HBd.out) x.id z RX RZ HRX HRZ HXW.out HZW.out HXN.out HZI.out)
                refine wpAnyH_ready (rs := [10]) (by kernel_rfl) (by simp) ?_
                refine consL rfl (fun KK hKK => ?_) AllReadyH.nil
                refine step_callv (by rfl) 16 [.tmp 185, .tmp 190, .tmp 194] _ [.slice (some ⟨b, off, none⟩) n cap, .agg RX.toArray, .agg RZ.toArray] _ (by rfl) (by rfl) (enter16 _ _ _) C16.out ?_
                rintro e u2 ⟨up, hup, rfl, hb1⟩
                have HB1 : Hid (Below G9 w9 u2) := hid (HBd.out.trans (hb1.mono (HG9.out _ HBd.out)))
                clear hb1 C16
                refine ⟨_, rfl, ?_⟩
                refine hKK.out _ _ (HSZ2.out _ HB1.out) (fun hHeld => ?_)
                clear hKK KK
                try simp only [Act.put, List.setIfInBounds_toArray, List.set_cons_zero, List.set_cons_succ]
                refine takeL (i := 11) (v := ?_) rfl (by kernel_rfl) (by kernel_rfl) (by kernel_rfl) (fun _ _ _ h => h) (Or.inl ⟨by rfl, ?_⟩) hHeld ?_
                rotate_left
                · rintro w' _; go_simp; rfl
                try simp only [Act.put, List.setIfInBounds_toArray, List.set_cons_zero, List.set_cons_succ]
                refine takeL (i := 12) (v := ?_) rfl (by kernel_rfl) (by kernel_rfl) (by kernel_rfl) (fun _ _ _ h => h) (Or.inl ⟨by rfl, ?_⟩) hHeld ?_
                rotate_left
                · rintro w' _; go_simp; rfl
                try simp only [Act.put, List.setIfInBounds_toArray, List.set_cons_zero, List.set_cons_succ]
                refine takeL (i := 13) (v := ?_) rfl (by kernel_rfl) (by kernel_rfl) (by kernel_rfl) (fun _ _ _ h => h) (Or.inl ⟨by rfl, ?_⟩) hHeld ?_
                rotate_left
                · rintro w' _; go_simp; rfl
                try simp only [Act.put, List.setIfInBounds_toArray, List.set_cons_zero, List.set_cons_succ]
                refine takeL (i := 14) (v := ?_) rfl (by kernel_rfl) (by kernel_rfl) (by kernel_rfl) (fun _ _ _ h => h) (Or.inl ⟨by rfl, ?_⟩) hHeld ?_
                rotate_left
                · rintro w' _; go_simp; rfl
                try simp only [Act.put, List.setIfInBounds_toArray, List.set_cons_zero, List.set_cons_succ]
                refine takeL (i := 15) (v := ?_) rfl (by kernel_rfl) (by kernel_rfl) (by kernel_rfl) (fun _ _ _ h => h) (Or.inl ⟨by rfl, ?_⟩) hHeld ?_
                rotate_left
                · rintro w' _; go_simp; rfl
                try simp only [Act.put, List.setIfInBounds_toArray, List.set_cons_zero, List.set_cons_succ]
                refine wpAnyH_done (by kernel_rfl) ?_ _
                clear hHeld HBd
                have HUP : Hid (BIff' up (Rch l (· ∈ [x.id]) z)) := hup
                clear hup HB
                have HBd : Hid (Below G9 w9 u2.drew) := hid (below_drewH HB1.out 1)
                have HEQ : Hid (∀ V : World, (Op.equalIn 10000 42 (.agg RZ.toArray) (.agg RX.toArray)).run Tryd.prog V = .ok (decide (z = x.id)) V) := fun V => by rw [← HRZ.out, ← HRX.out]; exact eq42 z x.id HZW.out.1 HXW.out.1 V
                go_wp2_with fail
                refine wp_region_held_drew (S := QS xb (xo + k * 20) b (off + i * 22) RZ RX) (by kernel_rfl) (HSZ2.out _ HBd.out) (fun hHeld => ?_)
                generalize u2.drew = u3 at hHeld HBd ⊢
                refine takeL (i := 0) (v := ?_) rfl (by kernel_rfl) (by kernel_rfl) (by kernel_rfl) (fun _ _ _ h => h) (Or.inl ⟨by rfl, ?_⟩) hHeld ?_
                rotate_left
                · rintro w' ⟨r0, r1⟩; go_simp; rfl
                try simp only [Act.put, List.setIfInBounds_toArray, List.set_cons_zero, List.set_cons_succ]
                refine takeL (i := 1) (v := ?_) rfl (by kernel_rfl) (by kernel_rfl) (by kernel_rfl) (fun _ _ _ h => h) (Or.inl ⟨by rfl, ?_⟩) hHeld ?_
                rotate_left
                · rintro w' ⟨r0, r1⟩; go_simp; rfl
                try simp only [Act.put, List.setIfInBounds_toArray, List.set_cons_zero, List.set_cons_succ]
                refine takeL (i := 2) (v := ?_) rfl (by kernel_rfl) (by kernel_rfl) (by kernel_rfl) (fun _ _ _ h => h) (Or.inl ⟨by rfl, ?_⟩) hHeld ?_
                rotate_left
                · rintro w' ⟨r0, r1⟩; go_simp; rfl
                try simp only [Act.put, List.setIfInBounds_toArray, List.set_cons_zero, List.set_cons_succ]
                refine takeL (i := 3) (v := .agg RZ.toArray) rfl (by kernel_rfl) (by kernel_rfl) (by kernel_rfl) (fun _ _ _ h => h) (yieldsIf_load_mid (by kernel_rfl) 42 _ rfl xb (xo + k * 20) (by rfl) RZ _ (fun w' h => h.r0) Tryd.underlying42 rfl hiZ) hHeld ?_
                try simp only [Act.put, List.setIfInBounds_toArray, List.set_cons_zero, List.set_cons_succ]
                refine takeL (i := 4) (v := ?_) rfl (by kernel_rfl) (by kernel_rfl) (by kernel_rfl) (fun _ _ _ h => h) (Or.inl ⟨by rfl, ?_⟩) hHeld ?_
                rotate_left
                · rintro w' ⟨r0, r1⟩; go_simp; rfl
                try simp only [Act.put, List.setIfInBounds_toArray, List.set_cons_zero, List.set_cons_succ]
                refine takeL (i := 5) (v := ?_) rfl (by kernel_rfl) (by kernel_rfl) (by kernel_rfl) (fun _ _ _ h => h) (Or.inl ⟨by rfl, ?_⟩) hHeld ?_
                rotate_left
                · rintro w' ⟨r0, r1⟩; go_simp; rfl
                try simp only [Act.put, List.setIfInBounds_toArray, List.set_cons_zero, List.set_cons_succ]
                refine takeL (i := 6) (v := ?_) rfl (by kernel_rfl) (by kernel_rfl) (by kernel_rfl) (fun _ _ _ h => h) (Or.inl ⟨by rfl, ?_⟩) hHeld ?_
                rotate_left
                · rintro w' ⟨r0, r1⟩; go_simp; rfl
                try simp only [Act.put, List.setIfInBounds_toArray, List.set_cons_zero, List.set_cons_succ]
                refine takeL (i := 7) (v := ?_) rfl (by kernel_rfl) (by kernel_rfl) (by kernel_rfl) (fun _ _ _ h => h) (Or.inl ⟨by rfl, ?_⟩) hHeld ?_
                rotate_left
                · rintro w' ⟨r0, r1⟩; go_simp; rfl
                try simp only [Act.put, List.setIfInBounds_toArray, List.set_cons_zero, List.set_cons_succ]
                refine takeL (i := 8) (v := .agg RX.toArray) rfl (by kernel_rfl) (by kernel_rfl) (by kernel_rfl) (fun _ _ _ h => h) (yieldsIf_load_mid (by kernel_rfl) 42 _ rfl b (off + i * 22) (by rfl) RX _ (fun w' h => h.r1) Tryd.underlying42 rfl hiX) hHeld ?_
                try simp only [Act.put, List.setIfInBounds_toArray, List.set_cons_zero, List.set_cons_succ]
                by_cases hzx : z = x.id
                · have heq : ∀ V : World, (Op.equalIn 10000 42 (.agg RZ.toArray) (.agg RX.toArray)).run Tryd.prog V = .ok true V := fun V => by rw [HEQ.out V, decide_eq_true hzx]
                  have hcb : bb = true := HC.out.2 (by rw [← hzx]; exact HZT.out.1.1)
                  have hdb : bd = true := HD.out.2 (by rw [← hzx]; exact HZT.out.1.2)
                  subst hcb
                  subst hdb
                  as_aux_lemma =>
                    refine takeL (i := 9) (v := .bool true) rfl (by kernel_rfl) (by kernel_rfl) (by kernel_rfl) (fun _ _ _ h => h) (Or.inl ⟨by rfl, ?_⟩) hHeld ?_
                    · rintro w' _; go_simp; try rfl
                    try simp only [Act.put, List.setIfInBounds_toArray, List.set_cons_zero, List.set_cons_succ]
                    refine takeL (i := 10) (v := .bool true) rfl (by kernel_rfl) (by kernel_rfl) (by kernel_rfl) (fun _ _ _ h => h) (Or.inl ⟨by rfl, ?_⟩) hHeld ?_
                    · rintro w' _; go_simp; try rfl
                    try simp only [Act.put, List.setIfInBounds_toArray, List.set_cons_zero, List.set_cons_succ]
                    refine takeL (i := 11) (v := ?_) rfl (by kernel_rfl) (by kernel_rfl) (by kernel_rfl) (fun _ _ _ h => h) (Or.inl ⟨by kernel_rfl, ?_⟩) hHeld ?_
                    rotate_left
                    · rintro w' _; go_simp; rfl
                    try simp only [Act.put, List.setIfInBounds_toArray, List.set_cons_zero, List.set_cons_succ]
                    refine takeL (i := 12) (v := .bool false) rfl (by kernel_rfl) (by kernel_rfl) (by kernel_rfl) (fun _ _ _ h => h) (Or.inl ⟨by kernel_rfl, ?_⟩) hHeld ?_
                    · rintro w' _; go_simp; try rfl
                    try simp only [Act.put, List.setIfInBounds_toArray, List.set_cons_zero, List.set_cons_succ]
                    refine takeL (i := 13) (v := .bool false) rfl (by kernel_rfl) (by kernel_rfl) (by kernel_rfl) (fun _ _ _ h => h) (Or.inl ⟨by kernel_rfl, ?_⟩) hHeld ?_
                    · rintro w' _; go_simp; try rfl
                    try simp only [Act.put, List.setIfInBounds_toArray, List.set_cons_zero, List.set_cons_succ]
                    refine takeL (i := 14) (v := ?_) rfl (by kernel_rfl) (by kernel_rfl) (by kernel_rfl) (fun _ _ _ h => h) (Or.inl ⟨by kernel_rfl, ?_⟩) hHeld ?_
                    rotate_left
                    · rintro w' _; go_simp; rfl
                    try simp only [Act.put, List.setIfInBounds_toArray, List.set_cons_zero, List.set_cons_succ]
                    refine takeL (i := 15) (v := .bool false) rfl (by kernel_rfl) (by kernel_rfl) (by kernel_rfl) (fun _ _ _ h => h) (Or.inl ⟨by kernel_rfl, ?_⟩) hHeld ?_
                    · rintro w' _; go_simp; try rfl
                    try simp only [Act.put, List.setIfInBounds_toArray, List.set_cons_zero, List.set_cons_succ]
                    refine takeL (i := 16) (v := .bool false) rfl (by kernel_rfl) (by kernel_rfl) (by kernel_rfl) (fun _ _ _ h => h) (Or.inl ⟨by kernel_rfl, ?_⟩) hHeld ?_
                    · rintro w' _; go_simp; try rfl
                    try simp only [Act.put, List.setIfInBounds_toArray, List.set_cons_zero, List.set_cons_succ]
                    refine takeL (i := 17) (v := .bool false) rfl (by kernel_rfl) (by kernel_rfl) (by kernel_rfl) (fun _ _ _ h => h) (Or.inl ⟨by rfl, ?_⟩) hHeld ?_
                    · rintro w' _; go_simp; try rfl
                    try simp only [Act.put, List.setIfInBounds_toArray, List.set_cons_zero, List.set_cons_succ]
                    refine takeL (i := 18) (v := .bool false) rfl (by kernel_rfl) (by kernel_rfl) (by kernel_rfl) (fun _ _ _ h => h) (Or.inl ⟨by rfl, ?_⟩) hHeld ?_
                    · rintro w' _; go_simp; try rfl
                    try simp only [Act.put, List.setIfInBounds_toArray, List.set_cons_zero, List.set_cons_succ]
                    refine takeL (i := 19) (v := ?_) rfl (by kernel_rfl) (by kernel_rfl) (by kernel_rfl) (fun _ _ _ h => h) (Or.inl ⟨by kernel_rfl, ?_⟩) hHeld ?_
                    rotate_left
                    · rintro w' ⟨r0, r1⟩; go_simp; rfl
                    try simp only [Act.put, List.setIfInBounds_toArray, List.set_cons_zero, List.set_cons_succ]
                    refine takeL (i := 20) (v := ?_) rfl (by kernel_rfl) (by kernel_rfl) (by kernel_rfl) (fun _ _ _ h => h) (Or.inl ⟨by kernel_rfl, ?_⟩) hHeld ?_
                    rotate_left
                    · rintro w' ⟨r0, r1⟩; go_simp; rfl
                    try simp only [Act.put, List.setIfInBounds_toArray, List.set_cons_zero, List.set_cons_succ]
                    refine takeL (i := 21) (v := ?_) rfl (by kernel_rfl) (by kernel_rfl) (by kernel_rfl) (fun _ _ _ h => h) (Or.inl ⟨by kernel_rfl, ?_⟩) hHeld ?_
                    rotate_left
                    · rintro w' ⟨r0, r1⟩; go_simp; rfl
                    try simp only [Act.put, List.setIfInBounds_toArray, List.set_cons_zero, List.set_cons_succ]
                    refine takeL (i := 22) (v := .agg RZ.toArray) rfl (by kernel_rfl) (by kernel_rfl) (by kernel_rfl) (fun _ _ _ h => h) (yieldsIf_load_mid (by kernel_rfl) 42 _ rfl xb (xo + k * 20) (by rfl) RZ _ (fun w' h => h.r0) Tryd.underlying42 rfl hiZ) hHeld ?_
                    try simp only [Act.put, List.setIfInBounds_toArray, List.set_cons_zero, List.set_cons_succ]
                    refine takeL (i := 23) (v := ?_) rfl (by kernel_rfl) (by kernel_rfl) (by kernel_rfl) (fun _ _ _ h => h) (Or.inl ⟨by kernel_rfl, ?_⟩) hHeld ?_
                    rotate_left
                    · rintro w' ⟨r0, r1⟩; go_simp; rfl
                    try simp only [Act.put, List.setIfInBounds_toArray, List.set_cons_zero, List.set_cons_succ]
                    refine takeL (i := 24) (v := ?_) rfl (by kernel_rfl) (by kernel_rfl) (by kernel_rfl) (fun _ _ _ h => h) (Or.inl ⟨by kernel_rfl, ?_⟩) hHeld ?_
                    rotate_left
                    · rintro w' ⟨r0, r1⟩; go_simp; rfl
                    try simp only [Act.put, List.setIfInBounds_toArray, List.set_cons_zero, List.set_cons_succ]
                    refine takeL (i := 25) (v := ?_) rfl (by kernel_rfl) (by kernel_rfl) (by kernel_rfl) (fun _ _ _ h => h) (Or.inl ⟨by kernel_rfl, ?_⟩) hHeld ?_
                    rotate_left
                    · rintro w' ⟨r0, r1⟩; go_simp; rfl
                    try simp only [Act.put, List.setIfInBounds_toArray, List.set_cons_zero, List.set_cons_succ]
                    refine takeL (i := 26) (v := ?_) rfl (by kernel_rfl) (by kernel_rfl) (by kernel_rfl) (fun _ _ _ h => h) (Or.inl ⟨by kernel_rfl, ?_⟩) hHeld ?_
                    rotate_left
                    · rintro w' ⟨r0, r1⟩; go_simp; rfl
                    try simp only [Act.put, List.setIfInBounds_toArray, List.set_cons_zero, List.set_cons_succ]
                    refine takeL (i := 27) (v := .agg RX.toArray) rfl (by kernel_rfl) (by kernel_rfl) (by kernel_rfl) (fun _ _ _ h => h) (yieldsIf_load_mid (by kernel_rfl) 42 _ rfl b (off + i * 22) (by rfl) RX _ (fun w' h => h.r1) Tryd.underlying42 rfl hiX) hHeld ?_
                    try simp only [Act.put, List.setIfInBounds_toArray, List.set_cons_zero, List.set_cons_succ]
                    refine takeL (i := 28) (v := .bool false) rfl (by kernel_rfl) (by kernel_rfl) (by kernel_rfl) (fun _ _ _ h => h) (Or.inl ⟨by kernel_rfl, ?_⟩) hHeld ?_
                    · rintro w' _; go_simp; try rfl
                    try simp only [Act.put, List.setIfInBounds_toArray, List.set_cons_zero, List.set_cons_succ]
                    refine takeL (i := 29) (v := .bool false) rfl (by kernel_rfl) (by kernel_rfl) (by kernel_rfl) (fun _ _ _ h => h) (Or.inl ⟨by kernel_rfl, ?_⟩) hHeld ?_
                    · rintro w' _; go_simp; try rfl
                    try simp only [Act.put, List.setIfInBounds_toArray, List.set_cons_zero, List.set_cons_succ]
                    refine takeL (i := 30) (v := undef) rfl (by kernel_rfl) (by kernel_rfl) (by kernel_rfl) (fun _ _ _ h => h) (Or.inr ⟨by kernel_rfl, rfl⟩) hHeld ?_
                    try simp only [Act.put, List.setIfInBounds_toArray, List.set_cons_zero, List.set_cons_succ]
                    refine takeL (i := 31) (v := .bool false) rfl (by kernel_rfl) (by kernel_rfl) (by kernel_rfl) (fun _ _ _ h => h) (Or.inl ⟨by kernel_rfl, ?_⟩) hHeld ?_
                    · rintro w' _; go_simp; try rfl
                    try simp only [Act.put, List.setIfInBounds_toArray, List.set_cons_zero, List.set_cons_succ]
                    refine takeL (i := 32) (v := .bool false) rfl (by kernel_rfl) (by kernel_rfl) (by kernel_rfl) (fun _ _ _ h => h) (Or.inl ⟨by kernel_rfl, ?_⟩) hHeld ?_
                    · rintro w' _; go_simp; try rfl
                    try simp only [Act.put, List.setIfInBounds_toArray, List.set_cons_zero, List.set_cons_succ]
                    refine takeL (i := 33) (v := undef) rfl (by kernel_rfl) (by kernel_rfl) (by kernel_rfl) (fun _ _ _ h => h) (Or.inr ⟨by kernel_rfl, rfl⟩) hHeld ?_
                    try simp only [Act.put, List.setIfInBounds_toArray, List.set_cons_zero, List.set_cons_succ]
                    refine takeL (i := 34) (v := .bool false) rfl (by kernel_rfl) (by kernel_rfl) (by kernel_rfl) (fun _ _ _ h => h) (Or.inl ⟨by kernel_rfl, ?_⟩) hHeld ?_
                    · rintro w' _; go_simp; try rfl
                    try simp only [Act.put, List.setIfInBounds_toArray, List.set_cons_zero, List.set_cons_succ]
                    refine takeL (i := 35) (v := .bool false) rfl (by kernel_rfl) (by kernel_rfl) (by kernel_rfl) (fun _ _ _ h => h) (Or.inl ⟨by kernel_rfl, ?_⟩) hHeld ?_
                    · rintro w' _; go_simp; try rfl
                    try simp only [Act.put, List.setIfInBounds_toArray, List.set_cons_zero, List.set_cons_succ]
                    refine takeL (i := 36) (v := undef) rfl (by kernel_rfl) (by kernel_rfl) (by kernel_rfl) (fun _ _ _ h => h) (Or.inr ⟨by kernel_rfl, rfl⟩) hHeld ?_
                    try simp only [Act.put, List.setIfInBounds_toArray, List.set_cons_zero, List.set_cons_succ]
                    refine takeL (i := 37) (v := .bool false) rfl (by kernel_rfl) (by kernel_rfl) (by kernel_rfl) (fun _ _ _ h => h) (Or.inl ⟨by kernel_rfl, ?_⟩) hHeld ?_
                    · rintro w' _; go_simp; try rfl
                    try simp only [Act.put, List.setIfInBounds_toArray, List.set_cons_zero, List.set_cons_succ]
                    refine takeL (i := 38) (v := .bool false) rfl (by kernel_rfl) (by kernel_rfl) (by kernel_rfl) (fun _ _ _ h => h) (Or.inl ⟨by rfl, ?_⟩) hHeld ?_
                    · rintro w' _; go_simp; try rfl
                    try simp only [Act.put, List.setIfInBounds_toArray, List.set_cons_zero, List.set_cons_succ]
                    refine wpAnyH_done (by kernel_rfl) ?_ _
                    clear hHeld heq
                    go_wp2
                    go_roundg (nx - (k + 1))
                    case measure => omega
                    case rel => exact ⟨k + 1, _, by omega, rfl, by go_num, rfl, HBE2, HBd⟩
                · have heq : ∀ V : World, (Op.equalIn 10000 42 (.agg RZ.toArray) (.agg RX.toArray)).run Tryd.prog V = .ok false V := fun V => by rw [HEQ.out V, decide_eq_false hzx]
                  have hnb : ¬ (up = true ∧ bb = true ∧ bd = true) := fun h => HZT.out.no (z := x.id) ⟨HC.out.1 h.2.1, HD.out.1 h.2.2⟩ hzx (HUP.out.1 h.1)
                  as_aux_lemma =>
                    refine takeL (i := 9) (v := .bool false) rfl (by kernel_rfl) (by kernel_rfl) (by kernel_rfl) (fun _ _ _ h => h) (Or.inl ⟨by rfl, ?_⟩) hHeld ?_
                    · rintro w' _; go_simp; try rfl
                    try simp only [Act.put, List.setIfInBounds_toArray, List.set_cons_zero, List.set_cons_succ]
                    refine takeL (i := 10) (v := .bool false) rfl (by kernel_rfl) (by kernel_rfl) (by kernel_rfl) (fun _ _ _ h => h) (Or.inl ⟨by rfl, ?_⟩) hHeld ?_
                    · rintro w' _; go_simp; try rfl
                    try simp only [Act.put, List.setIfInBounds_toArray, List.set_cons_zero, List.set_cons_succ]
                    refine takeL (i := 11) (v := undef) rfl (by kernel_rfl) (by kernel_rfl) (by kernel_rfl) (fun _ _ _ h => h) (Or.inr ⟨by kernel_rfl, rfl⟩) hHeld ?_
                    try simp only [Act.put, List.setIfInBounds_toArray, List.set_cons_zero, List.set_cons_succ]
                    refine takeL (i := 12) (v := undef) rfl (by kernel_rfl) (by kernel_rfl) (by kernel_rfl) (fun _ _ _ h => h) (Or.inr ⟨by kernel_rfl, rfl⟩) hHeld ?_
                    try simp only [Act.put, List.setIfInBounds_toArray, List.set_cons_zero, List.set_cons_succ]
                    refine takeL (i := 13) (v := undef) rfl (by kernel_rfl) (by kernel_rfl) (by kernel_rfl) (fun _ _ _ h => h) (Or.inr ⟨by kernel_rfl, rfl⟩) hHeld ?_
                    try simp only [Act.put, List.setIfInBounds_toArray, List.set_cons_zero, List.set_cons_succ]
                    refine takeL (i := 14) (v := undef) rfl (by kernel_rfl) (by kernel_rfl) (by kernel_rfl) (fun _ _ _ h => h) (Or.inr ⟨by kernel_rfl, rfl⟩) hHeld ?_
                    try simp only [Act.put, List.setIfInBounds_toArray, List.set_cons_zero, List.set_cons_succ]
                    refine takeL (i := 15) (v := undef) rfl (by kernel_rfl) (by kernel_rfl) (by kernel_rfl) (fun _ _ _ h => h) (Or.inr ⟨by kernel_rfl, rfl⟩) hHeld ?_
                    try simp only [Act.put, List.setIfInBounds_toArray, List.set_cons_zero, List.set_cons_succ]
                    refine takeL (i := 16) (v := undef) rfl (by kernel_rfl) (by kernel_rfl) (by kernel_rfl) (fun _ _ _ h => h) (Or.inr ⟨by kernel_rfl, rfl⟩) hHeld ?_
                    try simp only [Act.put, List.setIfInBounds_toArray, List.set_cons_zero, List.set_cons_succ]
                    refine takeL (i := 17) (v := .bool false) rfl (by kernel_rfl) (by kernel_rfl) (by kernel_rfl) (fun _ _ _ h => h) (Or.inl ⟨by rfl, ?_⟩) hHeld ?_
                    · rintro w' _; go_simp; try rfl
                    try simp only [Act.put, List.setIfInBounds_toArray, List.set_cons_zero, List.set_cons_succ]
                    refine takeL (i := 18) (v := .bool false) rfl (by kernel_rfl) (by kernel_rfl) (by kernel_rfl) (fun _ _ _ h => h) (Or.inl ⟨by rfl, ?_⟩) hHeld ?_
                    · rintro w' _; go_simp; try rfl
                    try simp only [Act.put, List.setIfInBounds_toArray, List.set_cons_zero, List.set_cons_succ]
                    refine takeL (i := 19) (v := ?_) rfl (by kernel_rfl) (by kernel_rfl) (by kernel_rfl) (fun _ _ _ h => h) (Or.inl ⟨by kernel_rfl, ?_⟩) hHeld ?_
                    rotate_left
                    · rintro w' ⟨r0, r1⟩; go_simp; rfl
                    try simp only [Act.put, List.setIfInBounds_toArray, List.set_cons_zero, List.set_cons_succ]
                    refine takeL (i := 20) (v := ?_) rfl (by kernel_rfl) (by kernel_rfl) (by kernel_rfl) (fun _ _ _ h => h) (Or.inl ⟨by kernel_rfl, ?_⟩) hHeld ?_
                    rotate_left
                    · rintro w' ⟨r0, r1⟩; go_simp; rfl
                    try simp only [Act.put, List.setIfInBounds_toArray, List.set_cons_zero, List.set_cons_succ]
                    refine takeL (i := 21) (v := ?_) rfl (by kernel_rfl) (by kernel_rfl) (by kernel_rfl) (fun _ _ _ h => h) (Or.inl ⟨by kernel_rfl, ?_⟩) hHeld ?_
                    rotate_left
                    · rintro w' ⟨r0, r1⟩; go_simp; rfl
                    try simp only [Act.put, List.setIfInBounds_toArray, List.set_cons_zero, List.set_cons_succ]
                    refine takeL (i := 22) (v := .agg RZ.toArray) rfl (by kernel_rfl) (by kernel_rfl) (by kernel_rfl) (fun _ _ _ h => h) (yieldsIf_load_mid (by kernel_rfl) 42 _ rfl xb (xo + k * 20) (by rfl) RZ _ (fun w' h => h.r0) Tryd.underlying42 rfl hiZ) hHeld ?_
                    try simp only [Act.put, List.setIfInBounds_toArray, List.set_cons_zero, List.set_cons_succ]
                    refine takeL (i := 23) (v := ?_) rfl (by kernel_rfl) (by kernel_rfl) (by kernel_rfl) (fun _ _ _ h => h) (Or.inl ⟨by kernel_rfl, ?_⟩) hHeld ?_
                    rotate_left
                    · rintro w' ⟨r0, r1⟩; go_simp; rfl
                    try simp only [Act.put, List.setIfInBounds_toArray, List.set_cons_zero, List.set_cons_succ]
                    refine takeL (i := 24) (v := ?_) rfl (by kernel_rfl) (by kernel_rfl) (by kernel_rfl) (fun _ _ _ h => h) (Or.inl ⟨by kernel_rfl, ?_⟩) hHeld ?_
                    rotate_left
                    · rintro w' ⟨r0, r1⟩; go_simp; rfl
                    try simp only [Act.put, List.setIfInBounds_toArray, List.set_cons_zero, List.set_cons_succ]
                    refine takeL (i := 25) (v := ?_) rfl (by kernel_rfl) (by kernel_rfl) (by kernel_rfl) (fun _ _ _ h => h) (Or.inl ⟨by kernel_rfl, ?_⟩) hHeld ?_
                    rotate_left
                    · rintro w' ⟨r0, r1⟩; go_simp; rfl
                    try simp only [Act.put, List.setIfInBounds_toArray, List.set_cons_zero, List.set_cons_succ]
                    refine takeL (i := 26) (v := ?_) rfl (by kernel_rfl) (by kernel_rfl) (by kernel_rfl) (fun _ _ _ h => h) (Or.inl ⟨by kernel_rfl, ?_⟩) hHeld ?_
                    rotate_left
                    · rintro w' ⟨r0, r1⟩; go_simp; rfl
                    try simp only [Act.put, List.setIfInBounds_toArray, List.set_cons_zero, List.set_cons_succ]
                    refine takeL (i := 27) (v := .agg RX.toArray) rfl (by kernel_rfl) (by kernel_rfl) (by kernel_rfl) (fun _ _ _ h => h) (yieldsIf_load_mid (by kernel_rfl) 42 _ rfl b (off + i * 22) (by rfl) RX _ (fun w' h => h.r1) Tryd.underlying42 rfl hiX) hHeld ?_
                    try simp only [Act.put, List.setIfInBounds_toArray, List.set_cons_zero, List.set_cons_succ]
                    refine takeL (i := 28) (v := .bool true) rfl (by kernel_rfl) (by kernel_rfl) (by kernel_rfl) (fun _ _ _ h => h) (Or.inl ⟨by kernel_rfl, ?_⟩) hHeld ?_
                    · rintro w' _; go_simp; try rfl
                    try simp only [Act.put, List.setIfInBounds_toArray, List.set_cons_zero, List.set_cons_succ]
                    refine takeL (i := 29) (v := .bool true) rfl (by kernel_rfl) (by kernel_rfl) (by kernel_rfl) (fun _ _ _ h => h) (Or.inl ⟨by kernel_rfl, ?_⟩) hHeld ?_
                    · rintro w' _; go_simp; try rfl
                    try simp only [Act.put, List.setIfInBounds_toArray, List.set_cons_zero, List.set_cons_succ]
                    refine takeL (i := 30) (v := ?_) rfl (by kernel_rfl) (by kernel_rfl) (by kernel_rfl) (fun _ _ _ h => h) (Or.inl ⟨by kernel_rfl, ?_⟩) hHeld ?_
                    rotate_left
                    · rintro w' _; go_simp; rfl
                    try simp only [Act.put, List.setIfInBounds_toArray, List.set_cons_zero, List.set_cons_succ]
                    cases up with
                    | false =>
                      clear hnb
                      as_aux_lemma =>
                        refine takeL (i := 31) (v := .bool false) rfl (by kernel_rfl) (by kernel_rfl) (by kernel_rfl) (fun _ _ _ h => h) (Or.inl ⟨by kernel_rfl, ?_⟩) hHeld ?_
                        · rintro w' _; go_simp; try rfl
                        try simp only [Act.put, List.setIfInBounds_toArray, List.set_cons_zero, List.set_cons_succ]
                        refine takeL (i := 32) (v := .bool false) rfl (by kernel_rfl) (by kernel_rfl) (by kernel_rfl) (fun _ _ _ h => h) (Or.inl ⟨by kernel_rfl, ?_⟩) hHeld ?_
                        · rintro w' _; go_simp; try rfl
                        try simp only [Act.put, List.setIfInBounds_toArray, List.set_cons_zero, List.set_cons_succ]
                        refine takeL (i := 33) (v := undef) rfl (by kernel_rfl) (by kernel_rfl) (by kernel_rfl) (fun _ _ _ h => h) (Or.inr ⟨by kernel_rfl, rfl⟩) hHeld ?_
                        try simp only [Act.put, List.setIfInBounds_toArray, List.set_cons_zero, List.set_cons_succ]
                        refine takeL (i := 34) (v := .bool false) rfl (by kernel_rfl) (by kernel_rfl) (by kernel_rfl) (fun _ _ _ h => h) (Or.inl ⟨by kernel_rfl, ?_⟩) hHeld ?_
                        · rintro w' _; go_simp; try rfl
                        try simp only [Act.put, List.setIfInBounds_toArray, List.set_cons_zero, List.set_cons_succ]
                        refine takeL (i := 35) (v := .bool false) rfl (by kernel_rfl) (by kernel_rfl) (by kernel_rfl) (fun _ _ _ h => h) (Or.inl ⟨by kernel_rfl, ?_⟩) hHeld ?_
                        · rintro w' _; go_simp; try rfl
                        try simp only [Act.put, List.setIfInBounds_toArray, List.set_cons_zero, List.set_cons_succ]
                        refine takeL (i := 36) (v := undef) rfl (by kernel_rfl) (by kernel_rfl) (by kernel_rfl) (fun _ _ _ h => h) (Or.inr ⟨by kernel_rfl, rfl⟩) hHeld ?_
                        try simp only [Act.put, List.setIfInBounds_toArray, List.set_cons_zero, List.set_cons_succ]
                        refine takeL (i := 37) (v := .bool false) rfl (by kernel_rfl) (by kernel_rfl) (by kernel_rfl) (fun _ _ _ h => h) (Or.inl ⟨by kernel_rfl, ?_⟩) hHeld ?_
                        · rintro w' _; go_simp; try rfl
                        try simp only [Act.put, List.setIfInBounds_toArray, List.set_cons_zero, List.set_cons_succ]
                        refine takeL (i := 38) (v := .bool false) rfl (by kernel_rfl) (by kernel_rfl) (by kernel_rfl) (fun _ _ _ h => h) (Or.inl ⟨by rfl, ?_⟩) hHeld ?_
                        · rintro w' _; go_simp; try rfl
                        try simp only [Act.put, List.setIfInBounds_toArray, List.set_cons_zero, List.set_cons_succ]
                        refine wpAnyH_done (by kernel_rfl) ?_ _
                        clear hHeld heq
                        go_wp2
                        go_roundg (nx - (k + 1))
                        case measure => omega
                        case rel => exact ⟨k + 1, _, by omega, rfl, by go_num, rfl, HBE2, HBd⟩
                    | true =>
                      cases bb with
                      | false =>
                        clear hnb
                        as_aux_lemma =>
                          refine takeL (i := 31) (v := .bool true) rfl (by kernel_rfl) (by kernel_rfl) (by kernel_rfl) (fun _ _ _ h => h) (Or.inl ⟨by kernel_rfl, ?_⟩) hHeld ?_
                          · rintro w' _; go_simp; try rfl
                          try simp only [Act.put, List.setIfInBounds_toArray, List.set_cons_zero, List.set_cons_succ]
                          refine takeL (i := 32) (v := .bool true) rfl (by kernel_rfl) (by kernel_rfl) (by kernel_rfl) (fun _ _ _ h => h) (Or.inl ⟨by kernel_rfl, ?_⟩) hHeld ?_
                          · rintro w' _; go_simp; try rfl
                          try simp only [Act.put, List.setIfInBounds_toArray, List.set_cons_zero, List.set_cons_succ]
                          refine takeL (i := 33) (v := ?_) rfl (by kernel_rfl) (by kernel_rfl) (by kernel_rfl) (fun _ _ _ h => h) (Or.inl ⟨by kernel_rfl, ?_⟩) hHeld ?_
                          rotate_left
                          · rintro w' _; go_simp; rfl
                          try simp only [Act.put, List.setIfInBounds_toArray, List.set_cons_zero, List.set_cons_succ]
                          refine takeL (i := 34) (v := .bool false) rfl (by kernel_rfl) (by kernel_rfl) (by kernel_rfl) (fun _ _ _ h => h) (Or.inl ⟨by kernel_rfl, ?_⟩) hHeld ?_
                          · rintro w' _; go_simp; try rfl
                          try simp only [Act.put, List.setIfInBounds_toArray, List.set_cons_zero, List.set_cons_succ]
                          refine takeL (i := 35) (v := .bool false) rfl (by kernel_rfl) (by kernel_rfl) (by kernel_rfl) (fun _ _ _ h => h) (Or.inl ⟨by kernel_rfl, ?_⟩) hHeld ?_
                          · rintro w' _; go_simp; try rfl
                          try simp only [Act.put, List.setIfInBounds_toArray, List.set_cons_zero, List.set_cons_succ]
                          refine takeL (i := 36) (v := undef) rfl (by kernel_rfl) (by kernel_rfl) (by kernel_rfl) (fun _ _ _ h => h) (Or.inr ⟨by kernel_rfl, rfl⟩) hHeld ?_
                          try simp only [Act.put, List.setIfInBounds_toArray, List.set_cons_zero, List.set_cons_succ]
                          refine takeL (i := 37) (v := .bool false) rfl (by kernel_rfl) (by kernel_rfl) (by kernel_rfl) (fun _ _ _ h => h) (Or.inl ⟨by kernel_rfl, ?_⟩) hHeld ?_
                          · rintro w' _; go_simp; try rfl
                          try simp only [Act.put, List.setIfInBounds_toArray, List.set_cons_zero, List.set_cons_succ]
                          refine takeL (i := 38) (v := .bool false) rfl (by kernel_rfl) (by kernel_rfl) (by kernel_rfl) (fun _ _ _ h => h) (Or.inl ⟨by rfl, ?_⟩) hHeld ?_
                          · rintro w' _; go_simp; try rfl
                          try simp only [Act.put, List.setIfInBounds_toArray, List.set_cons_zero, List.set_cons_succ]
                          refine wpAnyH_done (by kernel_rfl) ?_ _
                          clear hHeld heq
                          go_wp2
                          go_roundg (nx - (k + 1))
                          case measure => omega
                          case rel => exact ⟨k + 1, _, by omega, rfl, by go_num, rfl, HBE2, HBd⟩
                      | true =>
                        have hdb : bd = false := by
                          cases bd with
                          | false => rfl
                          | true => exact absurd ⟨rfl, rfl, rfl⟩ hnb
                        subst hdb
                        clear hnb
                        as_aux_lemma =>
                          refine takeL (i := 31) (v := .bool true) rfl (by kernel_rfl) (by kernel_rfl) (by kernel_rfl) (fun _ _ _ h => h) (Or.inl ⟨by kernel_rfl, ?_⟩) hHeld ?_
                          · rintro w' _; go_simp; try rfl
                          try simp only [Act.put, List.setIfInBounds_toArray, List.set_cons_zero, List.set_cons_succ]
                          refine takeL (i := 32) (v := .bool true) rfl (by kernel_rfl) (by kernel_rfl) (by kernel_rfl) (fun _ _ _ h => h) (Or.inl ⟨by kernel_rfl, ?_⟩) hHeld ?_
                          · rintro w' _; go_simp; try rfl
                          try simp only [Act.put, List.setIfInBounds_toArray, List.set_cons_zero, List.set_cons_succ]
                          refine takeL (i := 33) (v := ?_) rfl (by kernel_rfl) (by kernel_rfl) (by kernel_rfl) (fun _ _ _ h => h) (Or.inl ⟨by kernel_rfl, ?_⟩) hHeld ?_
                          rotate_left
                          · rintro w' _; go_simp; rfl
                          try simp only [Act.put, List.setIfInBounds_toArray, List.set_cons_zero, List.set_cons_succ]
                          refine takeL (i := 34) (v := .bool true) rfl (by kernel_rfl) (by kernel_rfl) (by kernel_rfl) (fun _ _ _ h => h) (Or.inl ⟨by kernel_rfl, ?_⟩) hHeld ?_
                          · rintro w' _; go_simp; try rfl
                          try simp only [Act.put, List.setIfInBounds_toArray, List.set_cons_zero, List.set_cons_succ]
                          refine takeL (i := 35) (v := .bool true) rfl (by kernel_rfl) (by kernel_rfl) (by kernel_rfl) (fun _ _ _ h => h) (Or.inl ⟨by kernel_rfl, ?_⟩) hHeld ?_
                          · rintro w' _; go_simp; try rfl
                          try simp only [Act.put, List.setIfInBounds_toArray, List.set_cons_zero, List.set_cons_succ]
                          refine takeL (i := 36) (v := ?_) rfl (by kernel_rfl) (by kernel_rfl) (by kernel_rfl) (fun _ _ _ h => h) (Or.inl ⟨by kernel_rfl, ?_⟩) hHeld ?_
                          rotate_left
                          · rintro w' _; go_simp; rfl
                          try simp only [Act.put, List.setIfInBounds_toArray, List.set_cons_zero, List.set_cons_succ]
                          refine takeL (i := 37) (v := .bool false) rfl (by kernel_rfl) (by kernel_rfl) (by kernel_rfl) (fun _ _ _ h => h) (Or.inl ⟨by kernel_rfl, ?_⟩) hHeld ?_
                          · rintro w' _; go_simp; try rfl
                          try simp only [Act.put, List.setIfInBounds_toArray, List.set_cons_zero, List.set_cons_succ]
                          refine takeL (i := 38) (v := .bool false) rfl (by kernel_rfl) (by kernel_rfl) (by kernel_rfl) (fun _ _ _ h => h) (Or.inl ⟨by rfl, ?_⟩) hHeld ?_
                          · rintro w' _; go_simp; try rfl
                          try simp only [Act.put, List.setIfInBounds_toArray, List.set_cons_zero, List.set_cons_succ]
                          refine wpAnyH_done (by kernel_rfl) ?_ _
                          clear hHeld heq
                          go_wp2
                          go_roundg (nx - (k + 1))
                          case measure => omega
                          case rel => exact ⟨k + 1, _, by omega, rfl, by go_num, rfl, HBE2, HBd⟩
            | true =>
              have hbe2 : true = be2 := by simpa using h32
              subst hbe2
              clear h32 HB2e
              as_aux_lemma =>
                have HBd : Hid (Below G9 w9 u1.drew) := hid (below_drewH HB.out 1)
                go_wp2_with fail
                refine wp_region_held_drew (S := QS xb (xo + k * 20) b (off + i * 22) RZ RX) (by kernel_rfl) (HSZ2.out _ HBd.out) (fun hHeld => ?_)
                generalize u1.drew = u0 at hHeld HBd ⊢
                refine takeL (i := 0) (v := ?_) rfl (by kernel_rfl) (by kernel_rfl) (by kernel_rfl) (fun _ _ _ h => h) (Or.inl ⟨by rfl, ?_⟩) hHeld ?_
                rotate_left
                · rintro w' ⟨r0, r1⟩; go_simp; rfl
                try simp only [Act.put, List.setIfInBounds_toArray, List.set_cons_zero, List.set_cons_succ]
                refine takeL (i := 1) (v := ?_) rfl (by kernel_rfl) (by kernel_rfl) (by kernel_rfl) (fun _ _ _ h => h) (Or.inl ⟨by rfl, ?_⟩) hHeld ?_
                rotate_left
                · rintro w' ⟨r0, r1⟩; go_simp; rfl
                try simp only [Act.put, List.setIfInBounds_toArray, List.set_cons_zero, List.set_cons_succ]
                refine takeL (i := 2) (v := ?_) rfl (by kernel_rfl) (by kernel_rfl) (by kernel_rfl) (fun _ _ _ h => h) (Or.inl ⟨by rfl, ?_⟩) hHeld ?_
                rotate_left
                · rintro w' ⟨r0, r1⟩; go_simp; rfl
                try simp only [Act.put, List.setIfInBounds_toArray, List.set_cons_zero, List.set_cons_succ]
                refine takeL (i := 3) (v := ?_) rfl (by kernel_rfl) (by kernel_rfl) (by kernel_rfl) (fun _ _ _ h => h) (Or.inl ⟨by rfl, ?_⟩) hHeld ?_
                rotate_left
                · rintro w' ⟨r0, r1⟩; go_simp; rfl
                try simp only [Act.put, List.setIfInBounds_toArray, List.set_cons_zero, List.set_cons_succ]
                refine takeL (i := 4) (v := ?_) rfl (by kernel_rfl) (by kernel_rfl) (by kernel_rfl) (fun _ _ _ h => h) (Or.inl ⟨by rfl, ?_⟩) hHeld ?_
                rotate_left
                · rintro w' ⟨r0, r1⟩; go_simp; rfl
                try simp only [Act.put, List.setIfInBounds_toArray, List.set_cons_zero, List.set_cons_succ]
                refine takeL (i := 5) (v := .agg RX.toArray) rfl (by kernel_rfl) (by kernel_rfl) (by kernel_rfl) (fun _ _ _ h => h) (yieldsIf_load_mid (by kernel_rfl) 42 _ rfl b (off + i * 22) (by rfl) RX _ (fun w' h => h.r1) Tryd.underlying42 rfl hiX) hHeld ?_
                try simp only [Act.put, List.setIfInBounds_toArray, List.set_cons_zero, List.set_cons_succ]
                refine takeL (i := 6) (v := ?_) rfl (by kernel_rfl) (by kernel_rfl) (by kernel_rfl) (fun _ _ _ h => h) (Or.inl ⟨by rfl, ?_⟩) hHeld ?_
                rotate_left
                · rintro w' ⟨r0, r1⟩; go_simp; rfl
                try simp only [Act.put, List.setIfInBounds_toArray, List.set_cons_zero, List.set_cons_succ]
                refine takeL (i := 7) (v := ?_) rfl (by kernel_rfl) (by kernel_rfl) (by kernel_rfl) (fun _ _ _ h => h) (Or.inl ⟨by rfl, ?_⟩) hHeld ?_
                rotate_left
                · rintro w' ⟨r0, r1⟩; go_simp; rfl
                try simp only [Act.put, List.setIfInBounds_toArray, List.set_cons_zero, List.set_cons_succ]
                refine takeL (i := 8) (v := ?_) rfl (by kernel_rfl) (by kernel_rfl) (by kernel_rfl) (fun _ _ _ h => h) (Or.inl ⟨by rfl, ?_⟩) hHeld ?_
                rotate_left
                · rintro w' ⟨r0, r1⟩; go_simp; rfl
                try simp only [Act.put, List.setIfInBounds_toArray, List.set_cons_zero, List.set_cons_succ]
                refine takeL (i := 9) (v := .agg RZ.toArray) rfl (by kernel_rfl) (by kernel_rfl) (by kernel_rfl) (fun _ _ _ h => h) (yieldsIf_load_mid (by kernel_rfl) 42 _ rfl xb (xo + k * 20) (by rfl) RZ _ (fun w' h => h.r0) Tryd.underlying42 rfl hiZ) hHeld ?_
                try simp only [Act.put, List.setIfInBounds_toArray, List.set_cons_zero, List.set_cons_succ]
                have C16 : Hid (Calls Tryd.prog 16 #[.slice (some ⟨b, off, none⟩) n cap, .agg RX.toArray, .agg RZ.toArray] u0 fun e w' => ∃ b : Bool, (b = true ↔ Rch l (· ∈ [x.id]) z) ∧ e = .returned (.tuple #[.bool b, .nilIface]) ∧ Below u0.heap.size u0 w') := hid (HCR.out u0 (HBB.out _ HBd.out) x.id z RX RZ HRX HRZ HXW.out HZW.out HXN.out HZI.out)
                refine wpAnyH_ready (rs := [10]) (by kernel_rfl) (by simp) ?_
                refine consL rfl (fun KK hKK => ?_) AllReadyH.nil
                refine step_callv (by rfl) 16 [.tmp 185, .tmp 190, .tmp 194] _ [.slice (some ⟨b, off, none⟩) n cap, .agg RX.toArray, .agg RZ.toArray] _ (by rfl) (by rfl) (enter16 _ _ _) C16.out ?_
                rintro e u2 ⟨up, hup, rfl, hb1⟩
                have HB1 : Hid (Below G9 w9 u2) := hid (HBd.out.trans (hb1.mono (HG9.out _ HBd.out)))
                clear hb1 C16
                refine ⟨_, rfl, ?_⟩
                refine hKK.out _ _ (HSZ2.out _ HB1.out) (fun hHeld => ?_)
                clear hKK KK
                try simp only [Act.put, List.setIfInBounds_toArray, List.set_cons_zero, List.set_cons_succ]
                refine takeL (i := 11) (v := ?_) rfl (by kernel_rfl) (by kernel_rfl) (by kernel_rfl) (fun _ _ _ h => h) (Or.inl ⟨by rfl, ?_⟩) hHeld ?_
                rotate_left
                · rintro w' _; go_simp; rfl
                try simp only [Act.put, List.setIfInBounds_toArray, List.set_cons_zero, List.set_cons_succ]
                refine takeL (i := 12) (v := ?_) rfl (by kernel_rfl) (by kernel_rfl) (by kernel_rfl) (fun _ _ _ h => h) (Or.inl ⟨by rfl, ?_⟩) hHeld ?_
                rotate_left
                · rintro w' _; go_simp; rfl
                try simp only [Act.put, List.setIfInBounds_toArray, List.set_cons_zero, List.set_cons_succ]
                refine takeL (i := 13) (v := ?_) rfl (by kernel_rfl) (by kernel_rfl) (by kernel_rfl) (fun _ _ _ h => h) (Or.inl ⟨by rfl, ?_⟩) hHeld ?_
                rotate_left
                · rintro w' _; go_simp; rfl
                try simp only [Act.put, List.setIfInBounds_toArray, List.set_cons_zero, List.set_cons_succ]
                refine takeL (i := 14) (v := ?_) rfl (by kernel_rfl) (by kernel_rfl) (by kernel_rfl) (fun _ _ _ h => h) (Or.inl ⟨by rfl, ?_⟩) hHeld ?_
                rotate_left
                · rintro w' _; go_simp; rfl
                try simp only [Act.put, List.setIfInBounds_toArray, List.set_cons_zero, List.set_cons_succ]
                refine takeL (i := 15) (v := ?_) rfl (by kernel_rfl) (by kernel_rfl) (by kernel_rfl) (fun _ _ _ h => h) (Or.inl ⟨by rfl, ?_⟩) hHeld ?_
                rotate_left
                · rintro w' _; go_simp; rfl
                try simp only [Act.put, List.setIfInBounds_toArray, List.set_cons_zero, List.set_cons_succ]
                refine wpAnyH_done (by kernel_rfl) ?_ _
                clear hHeld HBd
                have HUP : Hid (BIff' up (Rch l (· ∈ [x.id]) z)) := hup
                clear hup HB
                have HBd : Hid (Below G9 w9 u2.drew) := hid (below_drewH HB1.out 1)
                have HEQ : Hid (∀ V : World, (Op.equalIn 10000 42 (.agg RZ.toArray) (.agg RX.toArray)).run Tryd.prog V = .ok (decide (z = x.id)) V) := fun V => by rw [← HRZ.out, ← HRX.out]; exact eq42 z x.id HZW.out.1 HXW.out.1 V
                go_wp2_with fail
                refine wp_region_held_drew (S := QS xb (xo + k * 20) b (off + i * 22) RZ RX) (by kernel_rfl) (HSZ2.out _ HBd.out) (fun hHeld => ?_)
                generalize u2.drew = u3 at hHeld HBd ⊢
                refine takeL (i := 0) (v := ?_) rfl (by kernel_rfl) (by kernel_rfl) (by kernel_rfl) (fun _ _ _ h => h) (Or.inl ⟨by rfl, ?_⟩) hHeld ?_
                rotate_left
                · rintro w' ⟨r0, r1⟩; go_simp; rfl
                try simp only [Act.put, List.setIfInBounds_toArray, List.set_cons_zero, List.set_cons_succ]
                refine takeL (i := 1) (v := ?_) rfl (by kernel_rfl) (by kernel_rfl) (by kernel_rfl) (fun _ _ _ h => h) (Or.inl ⟨by rfl, ?_⟩) hHeld ?_
                rotate_left
                · rintro w' ⟨r0, r1⟩; go_simp; rfl
                try simp only [Act.put, List.setIfInBounds_toArray, List.set_cons_zero, List.set_cons_succ]
                refine takeL (i := 2) (v := ?_) rfl (by kernel_rfl) (by kernel_rfl) (by kernel_rfl) (fun _ _ _ h => h) (Or.inl ⟨by rfl, ?_⟩) hHeld ?_
                rotate_left
                · rintro w' ⟨r0, r1⟩; go_simp; rfl
                try simp only [Act.put, List.setIfInBounds_toArray, List.set_cons_zero, List.set_cons_succ]
                refine takeL (i := 3) (v := .agg RZ.toArray) rfl (by kernel_rfl) (by kernel_rfl) (by kernel_rfl) (fun _ _ _ h => h) (yieldsIf_load_mid (by kernel_rfl) 42 _ rfl xb (xo + k * 20) (by rfl) RZ _ (fun w' h => h.r0) Tryd.underlying42 rfl hiZ) hHeld ?_
                try simp only [Act.put, List.setIfInBounds_toArray, List.set_cons_zero, List.set_cons_succ]
                refine takeL (i := 4) (v := ?_) rfl (by kernel_rfl) (by kernel_rfl) (by kernel_rfl) (fun _ _ _ h => h) (Or.inl ⟨by rfl, ?_⟩) hHeld ?_
                rotate_left
                · rintro w' ⟨r0, r1⟩; go_simp; rfl
                try simp only [Act.put, List.setIfInBounds_toArray, List.set_cons_zero, List.set_cons_succ]
                refine takeL (i := 5) (v := ?_) rfl (by kernel_rfl) (by kernel_rfl) (by kernel_rfl) (fun _ _ _ h => h) (Or.inl ⟨by rfl, ?_⟩) hHeld ?_
                rotate_left
                · rintro w' ⟨r0, r1⟩; go_simp; rfl
                try simp only [Act.put, List.setIfInBounds_toArray, List.set_cons_zero, List.set_cons_succ]
                refine takeL (i := 6) (v := ?_) rfl (by kernel_rfl) (by kernel_rfl) (by kernel_rfl) (fun _ _ _ h => h) (Or.inl ⟨by rfl, ?_⟩) hHeld ?_
                rotate_left
                · rintro w' ⟨r0, r1⟩; go_simp; rfl
                try simp only [Act.put, List.setIfInBounds_toArray, List.set_cons_zero, List.set_cons_succ]
                refine takeL (i := 7) (v := ?_) rfl (by kernel_rfl) (by kernel_rfl) (by kernel_rfl) (fun _ _ _ h => h) (Or.inl ⟨by rfl, ?_⟩) hHeld ?_
                rotate_left
                · rintro w' ⟨r0, r1⟩; go_simp; rfl
                try simp only [Act.put, List.setIfInBounds_toArray, List.set_cons_zero, List.set_cons_succ]
                refine takeL (i := 8) (v := .agg RX.toArray) rfl (by kernel_rfl) (by kernel_rfl) (by kernel_rfl) (fun _ _ _ h => h) (yieldsIf_load_mid (by kernel_rfl) 42 _ rfl b (off + i * 22) (by rfl) RX _ (fun w' h => h.r1) Tryd.underlying42 rfl hiX) hHeld ?_
                try simp only [Act.put, List.setIfInBounds_toArray, List.set_cons_zero, List.set_cons_succ]
                by_cases hzx : z = x.id
                · have heq : ∀ V : World, (Op.equalIn 10000 42 (.agg RZ.toArray) (.agg RX.toArray)).run Tryd.prog V = .ok true V := fun V => by rw [HEQ.out V, decide_eq_true hzx]
                  have hcb : bb = true := HC.out.2 (by rw [← hzx]; exact HZT.out.1.1)
                  have hdb : bd = true := HD.out.2 (by rw [← hzx]; exact HZT.out.1.2)
                  subst hcb
                  subst hdb
                  as_aux_lemma =>
                    refine takeL (i := 9) (v := .bool true) rfl (by kernel_rfl) (by kernel_rfl) (by kernel_rfl) (fun _ _ _ h => h) (Or.inl ⟨by rfl, ?_⟩) hHeld ?_
                    · rintro w' _; go_simp; try rfl
                    try simp only [Act.put, List.setIfInBounds_toArray, List.set_cons_zero, List.set_cons_succ]
                    refine takeL (i := 10) (v := .bool true) rfl (by kernel_rfl) (by kernel_rfl) (by kernel_rfl) (fun _ _ _ h => h) (Or.inl ⟨by rfl, ?_⟩) hHeld ?_
                    · rintro w' _; go_simp; try rfl
                    try simp only [Act.put, List.setIfInBounds_toArray, List.set_cons_zero, List.set_cons_succ]
                    refine takeL (i := 11) (v := ?_) rfl (by kernel_rfl) (by kernel_rfl) (by kernel_rfl) (fun _ _ _ h => h) (Or.inl ⟨by kernel_rfl, ?_⟩) hHeld ?_
                    rotate_left
                    · rintro w' _; go_simp; rfl
                    try simp only [Act.put, List.setIfInBounds_toArray, List.set_cons_zero, List.set_cons_succ]
                    refine takeL (i := 12) (v := .bool false) rfl (by kernel_rfl) (by kernel_rfl) (by kernel_rfl) (fun _ _ _ h => h) (Or.inl ⟨by kernel_rfl, ?_⟩) hHeld ?_
                    · rintro w' _; go_simp; try rfl
                    try simp only [Act.put, List.setIfInBounds_toArray, List.set_cons_zero, List.set_cons_succ]
                    refine takeL (i := 13) (v := .bool false) rfl (by kernel_rfl) (by kernel_rfl) (by kernel_rfl) (fun _ _ _ h => h) (Or.inl ⟨by kernel_rfl, ?_⟩) hHeld ?_
                    · rintro w' _; go_simp; try rfl
                    try simp only [Act.put, List.setIfInBounds_toArray, List.set_cons_zero, List.set_cons_succ]
                    refine takeL (i := 14) (v := ?_) rfl (by kernel_rfl) (by kernel_rfl) (by kernel_rfl) (fun _ _ _ h => h) (Or.inl ⟨by kernel_rfl, ?_⟩) hHeld ?_
                    rotate_left
                    · rintro w' _; go_simp; rfl
                    try simp only [Act.put, List.setIfInBounds_toArray, List.set_cons_zero, List.set_cons_succ]
                    refine takeL (i := 15) (v := .bool false) rfl (by kernel_rfl) (by kernel_rfl) (by kernel_rfl) (fun _ _ _ h => h) (Or.inl ⟨by kernel_rfl, ?_⟩) hHeld ?_
                    · rintro w' _; go_simp; try rfl
                    try simp only [Act.put, List.setIfInBounds_toArray, List.set_cons_zero, List.set_cons_succ]
                    refine takeL (i := 16) (v := .bool false) rfl (by kernel_rfl) (by kernel_rfl) (by kernel_rfl) (fun _ _ _ h => h) (Or.inl ⟨by kernel_rfl, ?_⟩) hHeld ?_
                    · rintro w' _; go_simp; try rfl
                    try simp only [Act.put, List.setIfInBounds_toArray, List.set_cons_zero, List.set_cons_succ]
                    refine takeL (i := 17) (v := .bool false) rfl (by kernel_rfl) (by kernel_rfl) (by kernel_rfl) (fun _ _ _ h => h) (Or.inl ⟨by rfl, ?_⟩) hHeld ?_
                    · rintro w' _; go_simp; try rfl
                    try simp only [Act.put, List.setIfInBounds_toArray, List.set_cons_zero, List.set_cons_succ]
                    refine takeL (i := 18) (v := .bool false) rfl (by kernel_rfl) (by kernel_rfl) (by kernel_rfl) (fun _ _ _ h => h) (Or.inl ⟨by rfl, ?_⟩) hHeld ?_
                    · rintro w' _; go_simp; try rfl
                    try simp only [Act.put, List.setIfInBounds_toArray, List.set_cons_zero, List.set_cons_succ]
                    refine takeL (i := 19) (v := ?_) rfl (by kernel_rfl) (by kernel_rfl) (by kernel_rfl) (fun _ _ _ h => h) (Or.inl ⟨by kernel_rfl, ?_⟩) hHeld ?_
                    rotate_left
                    · rintro w' ⟨r0, r1⟩; go_simp; rfl
                    try simp only [Act.put, List.setIfInBounds_toArray, List.set_cons_zero, List.set_cons_succ]
                    refine takeL (i := 20) (v := ?_) rfl (by kernel_rfl) (by kernel_rfl) (by kernel_rfl) (fun _ _ _ h => h) (Or.inl ⟨by kernel_rfl, ?_⟩) hHeld ?_
                    rotate_left
                    · rintro w' ⟨r0, r1⟩; go_simp; rfl
                    try simp only [Act.put, List.setIfInBounds_toArray, List.set_cons_zero, List.set_cons_succ]
                    refine takeL (i := 21) (v := ?_) rfl (by kernel_rfl) (by kernel_rfl) (by kernel_rfl) (fun _ _ _ h => h) (Or.inl ⟨by kernel_rfl, ?_⟩) hHeld ?_
                    rotate_left
                    · rintro w' ⟨r0, r1⟩; go_simp; rfl
                    try simp only [Act.put, List.setIfInBounds_toArray, List.set_cons_zero, List.set_cons_succ]
                    refine takeL (i := 22) (v := .agg RZ.toArray) rfl (by kernel_rfl) (by kernel_rfl) (by kernel_rfl) (fun _ _ _ h => h) (yieldsIf_load_mid (by kernel_rfl) 42 _ rfl xb (xo + k * 20) (by rfl) RZ _ (fun w' h => h.r0) Tryd.underlying42 rfl hiZ) hHeld ?_
                    try simp only [Act.put, List.setIfInBounds_toArray, List.set_cons_zero, List.set_cons_succ]
                    refine takeL (i := 23) (v := ?_) rfl (by kernel_rfl) (by kernel_rfl) (by kernel_rfl) (fun _ _ _ h => h) (Or.inl ⟨by kernel_rfl, ?_⟩) hHeld ?_
                    rotate_left
                    · rintro w' ⟨r0, r1⟩; go_simp; rfl
                    try simp only [Act.put, List.setIfInBounds_toArray, List.set_cons_zero, List.set_cons_succ]
                    refine takeL (i := 24) (v := ?_) rfl (by kernel_rfl) (by kernel_rfl) (by kernel_rfl) (fun _ _ _ h => h) (Or.inl ⟨by kernel_rfl, ?_⟩) hHeld ?_
                    rotate_left
                    · rintro w' ⟨r0, r1⟩; go_simp; rfl
                    try simp only [Act.put, List.setIfInBounds_toArray, List.set_cons_zero, List.set_cons_succ]
                    refine takeL (i := 25) (v := ?_) rfl (by kernel_rfl) (by kernel_rfl) (by kernel_rfl) (fun _ _ _ h => h) (Or.inl ⟨by kernel_rfl, ?_⟩) hHeld ?_
                    rotate_left
                    · rintro w' ⟨r0, r1⟩; go_simp; rfl
                    try simp only [Act.put, List.setIfInBounds_toArray, List.set_cons_zero, List.set_cons_succ]
                    refine takeL (i := 26) (v := ?_) rfl (by kernel_rfl) (by kernel_rfl) (by kernel_rfl) (fun _ _ _ h => h) (Or.inl ⟨by kernel_rfl, ?_⟩) hHeld ?_
                    rotate_left
                    · rintro w' ⟨r0, r1⟩; go_simp; rfl
                    try simp only [Act.put, List.setIfInBounds_toArray, List.set_cons_zero, List.set_cons_succ]
                    refine takeL (i := 27) (v := .agg RX.toArray) rfl (by kernel_rfl) (by kernel_rfl) (by kernel_rfl) (fun _ _ _ h => h) (yieldsIf_load_mid (by kernel_rfl) 42 _ rfl b (off + i * 22) (by rfl) RX _ (fun w' h => h.r1) Tryd.underlying42 rfl hiX) hHeld ?_
                    try simp only [Act.put, List.setIfInBounds_toArray, List.set_cons_zero, List.set_cons_succ]
                    refine takeL (i := 28) (v := .bool false) rfl (by kernel_rfl) (by kernel_rfl) (by kernel_rfl) (fun _ _ _ h => h) (Or.inl ⟨by kernel_rfl, ?_⟩) hHeld ?_
                    · rintro w' _; go_simp; try rfl
                    try simp only [Act.put, List.setIfInBounds_toArray, List.set_cons_zero, List.set_cons_succ]
                    refine takeL (i := 29) (v := .bool false) rfl (by kernel_rfl) (by kernel_rfl) (by kernel_rfl) (fun _ _ _ h => h) (Or.inl ⟨by kernel_rfl, ?_⟩) hHeld ?_
                    · rintro w' _; go_simp; try rfl
                    try simp only [Act.put, List.setIfInBounds_toArray, List.set_cons_zero, List.set_cons_succ]
                    refine takeL (i := 30) (v := undef) rfl (by kernel_rfl) (by kernel_rfl) (by kernel_rfl) (fun _ _ _ h => h) (Or.inr ⟨by kernel_rfl, rfl⟩) hHeld ?_
                    try simp only [Act.put, List.setIfInBounds_toArray, List.set_cons_zero, List.set_cons_succ]
                    refine takeL (i := 31) (v := .bool false) rfl (by kernel_rfl) (by kernel_rfl) (by kernel_rfl) (fun _ _ _ h => h) (Or.inl ⟨by kernel_rfl, ?_⟩) hHeld ?_
                    · rintro w' _; go_simp; try rfl
                    try simp only [Act.put, List.setIfInBounds_toArray, List.set_cons_zero, List.set_cons_succ]
                    refine takeL (i := 32) (v := .bool false) rfl (by kernel_rfl) (by kernel_rfl) (by kernel_rfl) (fun _ _ _ h => h) (Or.inl ⟨by kernel_rfl, ?_⟩) hHeld ?_
                    · rintro w' _; go_simp; try rfl
                    try simp only [Act.put, List.setIfInBounds_toArray, List.set_cons_zero, List.set_cons_succ]
                    refine takeL (i := 33) (v := undef) rfl (by kernel_rfl) (by kernel_rfl) (by kernel_rfl) (fun _ _ _ h => h) (Or.inr ⟨by kernel_rfl, rfl⟩) hHeld ?_
                    try simp only [Act.put, List.setIfInBounds_toArray, List.set_cons_zero, List.set_cons_succ]
                    refine takeL (i := 34) (v := .bool false) rfl (by kernel_rfl) (by kernel_rfl) (by kernel_rfl) (fun _ _ _ h => h) (Or.inl ⟨by kernel_rfl, ?_⟩) hHeld ?_
                    · rintro w' _; go_simp; try rfl
                    try simp only [Act.put, List.setIfInBounds_toArray, List.set_cons_zero, List.set_cons_succ]
                    refine takeL (i := 35) (v := .bool false) rfl (by kernel_rfl) (by kernel_rfl) (by kernel_rfl) (fun _ _ _ h => h) (Or.inl ⟨by kernel_rfl, ?_⟩) hHeld ?_
                    · rintro w' _; go_simp; try rfl
                    try simp only [Act.put, List.setIfInBounds_toArray, List.set_cons_zero, List.set_cons_succ]
                    refine takeL (i := 36) (v := undef) rfl (by kernel_rfl) (by kernel_rfl) (by kernel_rfl) (fun _ _ _ h => h) (Or.inr ⟨by kernel_rfl, rfl⟩) hHeld ?_
                    try simp only [Act.put, List.setIfInBounds_toArray, List.set_cons_zero, List.set_cons_succ]
                    refine takeL (i := 37) (v := .bool false) rfl (by kernel_rfl) (by kernel_rfl) (by kernel_rfl) (fun _ _ _ h => h) (Or.inl ⟨by kernel_rfl, ?_⟩) hHeld ?_
                    · rintro w' _; go_simp; try rfl
                    try simp only [Act.put, List.setIfInBounds_toArray, List.set_cons_zero, List.set_cons_succ]
                    refine takeL (i := 38) (v := .bool false) rfl (by kernel_rfl) (by kernel_rfl) (by kernel_rfl) (fun _ _ _ h => h) (Or.inl ⟨by rfl, ?_⟩) hHeld ?_
                    · rintro w' _; go_simp; try rfl
                    try simp only [Act.put, List.setIfInBounds_toArray, List.set_cons_zero, List.set_cons_succ]
                    refine wpAnyH_done (by kernel_rfl) ?_ _
                    clear hHeld heq
                    go_wp2
                    go_roundg (nx - (k + 1))
                    case measure => omega
                    case rel => exact ⟨k + 1, _, by omega, rfl, by go_num, rfl, HBE2, HBd⟩
                · have heq : ∀ V : World, (Op.equalIn 10000 42 (.agg RZ.toArray) (.agg RX.toArray)).run Tryd.prog V = .ok false V := fun V => by rw [HEQ.out V, decide_eq_false hzx]
                  have hnb : ¬ (up = true ∧ bb = true ∧ bd = true) := fun h => HZT.out.no (z := x.id) ⟨HC.out.1 h.2.1, HD.out.1 h.2.2⟩ hzx (HUP.out.1 h.1)
                  as_aux_lemma =>
                    refine takeL (i := 9) (v := .bool false) rfl (by kernel_rfl) (by kernel_rfl) (by kernel_rfl) (fun _ _ _ h => h) (Or.inl ⟨by rfl, ?_⟩) hHeld ?_
                    · rintro w' _; go_simp; try rfl
                    try simp only [Act.put, List.setIfInBounds_toArray, List.set_cons_zero, List.set_cons_succ]
                    refine takeL (i := 10) (v := .bool false) rfl (by kernel_rfl) (by kernel_rfl) (by kernel_rfl) (fun _ _ _ h => h) (Or.inl ⟨by rfl, ?_⟩) hHeld ?_
                    · rintro w' _; go_simp; try rfl
                    try simp only [Act.put, List.setIfInBounds_toArray, List.set_cons_zero, List.set_cons_succ]
                    refine takeL (i := 11) (v := undef) rfl (by kernel_rfl) (by kernel_rfl) (by kernel_rfl) (fun _ _ _ h => h) (Or.inr ⟨by kernel_rfl, rfl⟩) hHeld ?_
                    try simp only [Act.put, List.setIfInBounds_toArray, List.set_cons_zero, List.set_cons_succ]
                    refine takeL (i := 12) (v := undef) rfl (by kernel_rfl) (by kernel_rfl) (by kernel_rfl) (fun _ _ _ h => h) (Or.inr ⟨by kernel_rfl, rfl⟩) hHeld ?_
                    try simp only [Act.put, List.setIfInBounds_toArray, List.set_cons_zero, List.set_cons_succ]
                    refine takeL (i := 13) (v := undef) rfl (by kernel_rfl) (by kernel_rfl) (by kernel_rfl) (fun _ _ _ h => h) (Or.inr ⟨by kernel_rfl, rfl⟩) hHeld ?_
                    try simp only [Act.put, List.setIfInBounds_toArray, List.set_cons_zero, List.set_cons_succ]
                    refine takeL (i := 14) (v := undef) rfl (by kernel_rfl) (by kernel_rfl) (by kernel_rfl) (fun _ _ _ h => h) (Or.inr ⟨by kernel_rfl, rfl⟩) hHeld ?_
                    try simp only [Act.put, List.setIfInBounds_toArray, List.set_cons_zero, List.set_cons_succ]
                    refine takeL (i := 15) (v := undef) rfl (by kernel_rfl) (by kernel_rfl) (by kernel_rfl) (fun _ _ _ h => h) (Or.inr ⟨by kernel_rfl, rfl⟩) hHeld ?_
                    try simp only [Act.put, List.setIfInBounds_toArray, List.set_cons_zero, List.set_cons_succ]
                    refine takeL (i := 16) (v := undef) rfl (by kernel_rfl) (by kernel_rfl) (by kernel_rfl) (fun _ _ _ h => h) (Or.inr ⟨by kernel_rfl, rfl⟩) hHeld ?_
                    try simp only [Act.put, List.setIfInBounds_toArray, List.set_cons_zero, List.set_cons_succ]
                    refine takeL (i := 17) (v := .bool false) rfl (by kernel_rfl) (by kernel_rfl) (by kernel_rfl) (fun _ _ _ h => h) (Or.inl ⟨by rfl, ?_⟩) hHeld ?_
                    · rintro w' _; go_simp; try rfl
                    try simp only [Act.put, List.setIfInBounds_toArray, List.set_cons_zero, List.set_cons_succ]
                    refine takeL (i := 18) (v := .bool false) rfl (by kernel_rfl) (by kernel_rfl) (by kernel_rfl) (fun _ _ _ h => h) (Or.inl ⟨by rfl, ?_⟩) hHeld ?_
                    · rintro w' _; go_simp; try rfl
                    try simp only [Act.put, List.setIfInBounds_toArray, List.set_cons_zero, List.set_cons_succ]
                    refine takeL (i := 19) (v := ?_) rfl (by kernel_rfl) (by kernel_rfl) (by kernel_rfl) (fun _ _ _ h => h) (Or.inl ⟨by kernel_rfl, ?_⟩) hHeld ?_
                    rotate_left
                    · rintro w' ⟨r0, r1⟩; go_simp; rfl
                    try simp only [Act.put, List.setIfInBounds_toArray, List.set_cons_zero, List.set_cons_succ]
                    refine takeL (i := 20) (v := ?_) rfl (by kernel_rfl) (by kernel_rfl) (by kernel_rfl) (fun _ _ _ h => h) (Or.inl ⟨by kernel_rfl, ?_⟩) hHeld ?_
                    rotate_left
                    · rintro w' ⟨r0, r1⟩; go_simp; rfl
                    try simp only [Act.put, List.setIfInBounds_toArray, List.set_cons_zero, List.set_cons_succ]
                    refine takeL (i := 21) (v := ?_) rfl (by kernel_rfl) (by kernel_rfl) (by kernel_rfl) (fun _ _ _ h => h) (Or.inl ⟨by kernel_rfl, ?_⟩) hHeld ?_
                    rotate_left
                    · rintro w' ⟨r0, r1⟩; go_simp; rfl
                    try simp only [Act.put, List.setIfInBounds_toArray, List.set_cons_zero, List.set_cons_succ]
                    refine takeL (i := 22) (v := .agg RZ.toArray) rfl (by kernel_rfl) (by kernel_rfl) (by kernel_rfl) (fun _ _ _ h => h) (yieldsIf_load_mid (by kernel_rfl) 42 _ rfl xb (xo + k * 20) (by rfl) RZ _ (fun w' h => h.r0) Tryd.underlying42 rfl hiZ) hHeld ?_
                    try simp only [Act.put, List.setIfInBounds_toArray, List.set_cons_zero, List.set_cons_succ]
                    refine takeL (i := 23) (v := ?_) rfl (by kernel_rfl) (by kernel_rfl) (by kernel_rfl) (fun _ _ _ h => h) (Or.inl ⟨by kernel_rfl, ?_⟩) hHeld ?_
                    rotate_left
                    · rintro w' ⟨r0, r1⟩; go_simp; rfl
                    try simp only [Act.put, List.setIfInBounds_toArray, List.set_cons_zero, List.set_cons_succ]
                    refine takeL (i := 24) (v := ?_) rfl (by kernel_rfl) (by kernel_rfl) (by kernel_rfl) (fun _ _ _ h => h) (Or.inl ⟨by kernel_rfl, ?_⟩) hHeld ?_
                    rotate_left
                    · rintro w' ⟨r0, r1⟩; go_simp; rfl
                    try simp only [Act.put, List.setIfInBounds_toArray, List.set_cons_zero, List.set_cons_succ]
                    refine takeL (i := 25) (v := ?_) rfl (by kernel_rfl) (by kernel_rfl) (by kernel_rfl) (fun _ _ _ h => h) (Or.inl ⟨by kernel_rfl, ?_⟩) hHeld ?_
                    rotate_left
                    · rintro w' ⟨r0, r1⟩; go_simp; rfl
                    try simp only [Act.put, List.setIfInBounds_toArray, List.set_cons_zero, List.set_cons_succ]
                    refine takeL (i := 26) (v := ?_) rfl (by kernel_rfl) (by kernel_rfl) (by kernel_rfl) (fun _ _ _ h => h) (Or.inl ⟨by kernel_rfl, ?_⟩) hHeld ?_
                    rotate_left
                    · rintro w' ⟨r0, r1⟩; go_simp; rfl
                    try simp only [Act.put, List.setIfInBounds_toArray, List.set_cons_zero, List.set_cons_succ]
                    refine takeL (i := 27) (v := .agg RX.toArray) rfl (by kernel_rfl) (by kernel_rfl) (by kernel_rfl) (fun _ _ _ h => h) (yieldsIf_load_mid (by kernel_rfl) 42 _ rfl b (off + i * 22) (by rfl) RX _ (fun w' h => h.r1) Tryd.underlying42 rfl hiX) hHeld ?_
                    try simp only [Act.put, List.setIfInBounds_toArray, List.set_cons_zero, List.set_cons_succ]
                    refine takeL (i := 28) (v := .bool true) rfl (by kernel_rfl) (by kernel_rfl) (by kernel_rfl) (fun _ _ _ h => h) (Or.inl ⟨by kernel_rfl, ?_⟩) hHeld ?_
                    · rintro w' _; go_simp; try rfl
                    try simp only [Act.put, List.setIfInBounds_toArray, List.set_cons_zero, List.set_cons_succ]
                    refine takeL (i := 29) (v := .bool true) rfl (by kernel_rfl) (by kernel_rfl) (by kernel_rfl) (fun _ _ _ h => h) (Or.inl ⟨by kernel_rfl, ?_⟩) hHeld ?_
                    · rintro w' _; go_simp; try rfl
                    try simp only [Act.put, List.setIfInBounds_toArray, List.set_cons_zero, List.set_cons_succ]
                    refine takeL (i := 30) (v := ?_) rfl (by kernel_rfl) (by kernel_rfl) (by kernel_rfl) (fun _ _ _ h => h) (Or.inl ⟨by kernel_rfl, ?_⟩) hHeld ?_
                    rotate_left
                    · rintro w' _; go_simp; rfl
                    try simp only [Act.put, List.setIfInBounds_toArray, List.set_cons_zero, List.set_cons_succ]
                    cases up with
                    | false =>
                      clear hnb
                      as_aux_lemma =>
                        refine takeL (i := 31) (v := .bool false) rfl (by kernel_rfl) (by kernel_rfl) (by kernel_rfl) (fun _ _ _ h => h) (Or.inl ⟨by kernel_rfl, ?_⟩) hHeld ?_
                        · rintro w' _; go_simp; try rfl
                        try simp only [Act.put, List.setIfInBounds_toArray, List.set_cons_zero, List.set_cons_succ]
                        refine takeL (i := 32) (v := .bool false) rfl (by kernel_rfl) (by kernel_rfl) (by kernel_rfl) (fun _ _ _ h => h) (Or.inl ⟨by kernel_rfl, ?_⟩) hHeld ?_
                        · rintro w' _; go_simp; try rfl
                        try simp only [Act.put, List.setIfInBounds_toArray, List.set_cons_zero, List.set_cons_succ]
                        refine takeL (i := 33) (v := undef) rfl (by kernel_rfl) (by kernel_rfl) (by kernel_rfl) (fun _ _ _ h => h) (Or.inr ⟨by kernel_rfl, rfl⟩) hHeld ?_
                        try simp only [Act.put, List.setIfInBounds_toArray, List.set_cons_zero, List.set_cons_succ]
                        refine takeL (i := 34) (v := .bool false) rfl (by kernel_rfl) (by kernel_rfl) (by kernel_rfl) (fun _ _ _ h => h) (Or.inl ⟨by kernel_rfl, ?_⟩) hHeld ?_
                        · rintro w' _; go_simp; try rfl
                        try simp only [Act.put, List.setIfInBounds_toArray, List.set_cons_zero, List.set_cons_succ]
                        refine takeL (i := 35) (v := .bool false) rfl (by kernel_rfl) (by kernel_rfl) (by kernel_rfl) (fun _ _ _ h => h) (Or.inl ⟨by kernel_rfl, ?_⟩) hHeld ?_
                        · rintro w' _; go_simp; try rfl
                        try simp only [Act.put, List.setIfInBounds_toArray, List.set_cons_zero, List.set_cons_succ]
                        refine takeL (i := 36) (v := undef) rfl (by kernel_rfl) (by kernel_rfl) (by kernel_rfl) (fun _ _ _ h => h) (Or.inr ⟨by kernel_rfl, rfl⟩) hHeld ?_
                        try simp only [Act.put, List.setIfInBounds_toArray, List.set_cons_zero, List.set_cons_succ]
                        refine takeL (i := 37) (v := .bool false) rfl (by kernel_rfl) (by kernel_rfl) (by kernel_rfl) (fun _ _ _ h => h) (Or.inl ⟨by kernel_rfl, ?_⟩) hHeld ?_
                        · rintro w' _; go_simp; try rfl
                        try simp only [Act.put, List.setIfInBounds_toArray, List.set_cons_zero, List.set_cons_succ]
                        refine takeL (i := 38) (v := .bool false) rfl (by kernel_rfl) (by kernel_rfl) (by kernel_rfl) (fun _ _ _ h => h) (Or.inl ⟨by rfl, ?_⟩) hHeld ?_
                        · rintro w' _; go_simp; try rfl
                        try simp only [Act.put, List.setIfInBounds_toArray, List.set_cons_zero, List.set_cons_succ]
                        refine wpAnyH_done (by kernel_rfl) ?_ _
                        clear hHeld heq
                        go_wp2
                        go_roundg (nx - (k + 1))
                        case measure => omega
                        case rel => exact ⟨k + 1, _, by omega, rfl, by go_num, rfl, HBE2, HBd⟩
                    | true =>
                      cases bb with
                      | false =>
                        clear hnb
                        as_aux_lemma =>
                          refine takeL (i := 31) (v := .bool true) rfl (by kernel_rfl) (by kernel_rfl) (by kernel_rfl) (fun _ _ _ h => h) (Or.inl ⟨by kernel_rfl, ?_⟩) hHeld ?_
                          · rintro w' _; go_simp; try rfl
                          try simp only [Act.put, List.setIfInBounds_toArray, List.set_cons_zero, List.set_cons_succ]
                          refine takeL (i := 32) (v := .bool true) rfl (by kernel_rfl) (by kernel_rfl) (by kernel_rfl) (fun _ _ _ h => h) (Or.inl ⟨by kernel_rfl, ?_⟩) hHeld ?_
                          · rintro w' _; go_simp; try rfl
                          try simp only [Act.put, List.setIfInBounds_toArray, List.set_cons_zero, List.set_cons_succ]
                          refine takeL (i := 33) (v := ?_) rfl (by kernel_rfl) (by kernel_rfl) (by kernel_rfl) (fun _ _ _ h => h) (Or.inl ⟨by kernel_rfl, ?_⟩) hHeld ?_
                          rotate_left
                          · rintro w' _; go_simp; rfl
                          try simp only [Act.put, List.setIfInBounds_toArray, List.set_cons_zero, List.set_cons_succ]
                          refine takeL (i := 34) (v := .bool false) rfl (by kernel_rfl) (by kernel_rfl) (by kernel_rfl) (fun _ _ _ h => h) (Or.inl ⟨by kernel_rfl, ?_⟩) hHeld ?_
                          · rintro w' _; go_simp; try rfl
                          try simp only [Act.put, List.setIfInBounds_toArray, List.set_cons_zero, List.set_cons_succ]
                          refine takeL (i := 35) (v := .bool false) rfl (by kernel_rfl) (by kernel_rfl) (by kernel_rfl) (fun _ _ _ h => h) (Or.inl ⟨by kernel_rfl, ?_⟩) hHeld ?_
                          · rintro w' _; go_simp; try rfl
                          try simp only [Act.put, List.setIfInBounds_toArray, List.set_cons_zero, List.set_cons_succ]
                          refine takeL (i := 36) (v := undef) rfl (by kernel_rfl) (by kernel_rfl) (by kernel_rfl) (fun _ _ _ h => h) (Or.inr ⟨by kernel_rfl, rfl⟩) hHeld ?_
                          try simp only [Act.put, List.setIfInBounds_toArray, List.set_cons_zero, List.set_cons_succ]
                          refine takeL (i := 37) (v := .bool false) rfl (by kernel_rfl) (by kernel_rfl) (by kernel_rfl) (fun _ _ _ h => h) (Or.inl ⟨by kernel_rfl, ?_⟩) hHeld ?_
                          · rintro w' _; go_simp; try rfl
                          try simp only [Act.put, List.setIfInBounds_toArray, List.set_cons_zero, List.set_cons_succ]
                          refine takeL (i := 38) (v := .bool false) rfl (by kernel_rfl) (by kernel_rfl) (by kernel_rfl) (fun _ _ _ h => h) (Or.inl ⟨by rfl, ?_⟩) hHeld ?_
                          · rintro w' _; go_simp; try rfl
                          try simp only [Act.put, List.setIfInBounds_toArray, List.set_cons_zero, List.set_cons_succ]
                          refine wpAnyH_done (by kernel_rfl) ?_ _
                          clear hHeld heq
                          go_wp2
                          go_roundg (nx - (k + 1))
                          case measure => omega
                          case rel => exact ⟨k + 1, _, by omega, rfl, by go_num, rfl, HBE2, HBd⟩
                      | true =>
                        have hdb : bd = false := by
                          cases bd with
                          | false => rfl
                          | true => exact absurd ⟨rfl, rfl, rfl⟩ hnb
                        subst hdb
                        clear hnb
                        as_aux_lemma =>
                          refine takeL (i := 31) (v := .bool true) rfl (by kernel_rfl) (by kernel_rfl) (by kernel_rfl) (fun _ _ _ h => h) (Or.inl ⟨by kernel_rfl, ?_⟩) hHeld ?_
                          · rintro w' _; go_simp; try rfl
                          try simp only [Act.put, List.setIfInBounds_toArray, List.set_cons_zero, List.set_cons_succ]
                          refine takeL (i := 32) (v := .bool true) rfl (by kernel_rfl) (by kernel_rfl) (by kernel_rfl) (fun _ _ _ h => h) (Or.inl ⟨by kernel_rfl, ?_⟩) hHeld ?_
                          · rintro w' _; go_simp; try rfl
                          try simp only [Act.put, List.setIfInBounds_toArray, List.set_cons_zero, List.set_cons_succ]
                          refine takeL (i := 33) (v := ?_) rfl (by kernel_rfl) (by kernel_rfl) (by kernel_rfl) (fun _ _ _ h => h) (Or.inl ⟨by kernel_rfl, ?_⟩) hHeld ?_
                          rotate_left
                          · rintro w' _; go_simp; rfl
                          try simp only [Act.put, List.setIfInBounds_toArray, List.set_cons_zero, List.set_cons_succ]
                          refine takeL (i := 34) (v := .bool true) rfl (by kernel_rfl) (by kernel_rfl) (by kernel_rfl) (fun _ _ _ h => h) (Or.inl ⟨by kernel_rfl, ?_⟩) hHeld ?_
                          · rintro w' _; go_simp; try rfl
                          try simp only [Act.put, List.setIfInBounds_toArray, List.set_cons_zero, List.set_cons_succ]
                          refine takeL (i := 35) (v := .bool true) rfl (by kernel_rfl) (by kernel_rfl) (by kernel_rfl) (fun _ _ _ h => h) (Or.inl ⟨by kernel_rfl, ?_⟩) hHeld ?_
                          · rintro w' _; go_simp; try rfl
                          try simp only [Act.put, List.setIfInBounds_toArray, List.set_cons_zero, List.set_cons_succ]
                          refine takeL (i := 36) (v := ?_) rfl (by kernel_rfl) (by kernel_rfl) (by kernel_rfl) (fun _ _ _ h => h) (Or.inl ⟨by kernel_rfl, ?_⟩) hHeld ?_
                          rotate_left
                          · rintro w' _; go_simp; rfl
                          try simp only [Act.put, List.setIfInBounds_toArray, List.set_cons_zero, List.set_cons_succ]
                          refine takeL (i := 37) (v := .bool false) rfl (by kernel_rfl) (by kernel_rfl) (by kernel_rfl) (fun _ _ _ h => h) (Or.inl ⟨by kernel_rfl, ?_⟩) hHeld ?_
                          · rintro w' _; go_simp; try rfl
                          try simp only [Act.put, List.setIfInBounds_toArray, List.set_cons_zero, List.set_cons_succ]
                          refine takeL (i := 38) (v := .bool false) rfl (by kernel_rfl) (by kernel_rfl) (by kernel_rfl) (fun _ _ _ h => h) (Or.inl ⟨by rfl, ?_⟩) hHeld ?_
                          · rintro w' _; go_simp; try rfl
                          try simp only [Act.put, List.setIfInBounds_toArray, List.set_cons_zero, List.set_cons_succ]
                          refine wpAnyH_done (by kernel_rfl) ?_ _
                          clear hHeld heq
                          go_wp2
                          go_roundg (nx - (k + 1))
                          case measure => omega
                          case rel => exact ⟨k + 1, _, by omega, rfl, by go_num, rfl, HBE2, HBd⟩
          · have hkni : ¬ (k : Int) < (nx : Int) := by omega
            have HFIN : Hid ((bb && bd) = be) := hid (by
              have h0 := HBI.out x HXM.out
              have h1 : be = true ↔ _ := HBE.out
              rw [List.take_of_length_le (by rw [HNX.out]; omega), ← h0] at h1
              have h2 : bb = true ↔ _ := HC.out
              have h3 : bd = true ↔ _ := HD.out
              rw [Bool.eq_iff_iff, Bool.and_eq_true, h1, h2, h3]
              exact Iff.rfl)
            have hfin := HFIN.out
            clear HFIN
            cases bb with
            | false =>
              have hbe : be = false := by rw [← hfin]; rfl
              subst hbe
              clear hfin
              go_wp2
              go_roundg (n - (i + 1))
              case measure => omega
              case rel => exact ⟨i + 1, by omega, rfl, by go_num, HB⟩
            | true =>
              have hbe : bd = be := by rw [← hfin]; rfl
              subst hbe
              clear hfin
              cases bd with
              | false =>
                go_wp2
                go_roundg (n - (i + 1))
                case measure => omega
                case rel => exact ⟨i + 1, by omega, rfl, by go_num, HB⟩
              | true =>
                go_wp2
                go_roundg (n - (i + 1))
                case measure => omega
                case rel => exact ⟨i + 1, by omega, rfl, by go_num, HB⟩
end Go.Proofs.YtjgjeedablgmeaaDoor
