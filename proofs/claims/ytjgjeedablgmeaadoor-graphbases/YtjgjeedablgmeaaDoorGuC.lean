/- The document's 'Reaches' and 'Bases'. -/
import Derived.Test.YtjgjeedablgmeaaDoorGuB
import Derived.Test.YtjgjeedablgmeaaDoorGtF
namespace Go.Proofs.YtjgjeedablgmeaaDoor
open Go.RowKit
set_option linter.unusedVariables false
set_option linter.unusedSimpArgs false
/-- What the document's 'Reaches' gives. -/
def PostRq (l : List Nd) (x y : List Int) (w : World) (e : Ending) (w' : World) : Prop := Below w.heap.size w w' ∧ ((In2 l x y ∧ ∃ b : Bool, (b = true ↔ Rch l (· ∈ [x]) y) ∧ e = .returned (.tuple #[.bool b, .int .i64 0])) ∨ (¬ In2 l x y ∧ e = .returned (.tuple #[.bool false, .int .i64 80])))
/-- What the document's 'Bases' gives. -/
def PostBq (l : List Nd) (x y : List Int) (w : World) (e : Ending) (w' : World) : Prop := Below w.heap.size w w' ∧ ((In2 l x y ∧ ∃ a cap xs, e = .returned (.tuple #[.slice a xs.length cap, .int .i64 0]) ∧ Lst' (Tq l (Bth l x y)) xs ∧ Rs xs ∧ Pa w' a cap xs) ∨ (¬ In2 l x y ∧ e = .returned (.tuple #[.slice none 0 0, .int .i64 80])))
theorem tq_congr {l : List Nd} {S T : List Int → Prop} (h : ∀ z, S z ↔ T z) (y : List Int) : Tq l S y ↔ Tq l T y := by
  unfold Tq
  rw [h y]
  exact ⟨fun k => ⟨k.1, fun z hz => k.2 z ((h z).2 hz)⟩, fun k => ⟨k.1, fun z hz => k.2 z ((h z).1 hz)⟩⟩
theorem Lst'.congr {S T : List Int → Prop} {xs : List (List Int)} (h : Lst' S xs) (he : ∀ y, S y ↔ T y) : Lst' T xs := ⟨h.one, h.idw, fun y hy => (h.all y hy).trans (he y)⟩
set_option maxRecDepth 20000 in
set_option maxHeartbeats 2000000 in
theorem rreaches_any {w : World} (a : Option Addr) (cap : Nat) (l : List Nd) (hP : Pn w a cap l) (hw : ∀ x ∈ l, NdW w x) (hn : l.length ≤ 40) (hps : ∀ x ∈ l, x.ps.length ≤ 40) (x y : List Int) (hx : IdW x) (hy : IdW y) :
    Calls Tryd.prog 17 #[.slice a l.length cap, idV x, idV y] w (PostRq l x y w) := by
  obtain ⟨G, HG⟩ : ∃ G, Hid (w.heap.size = G) := ⟨_, rfl⟩
  obtain ⟨n, HNL⟩ : ∃ n, Hid (l.length = n) := ⟨_, rfl⟩
  obtain ⟨X, HX⟩ : ∃ X : List Value, Hid (row .u8 x = X) := ⟨_, rfl⟩
  obtain ⟨Y, HY⟩ : ∃ X : List Value, Hid (row .u8 y = X) := ⟨_, rfl⟩
  have hiX : (Tryd.prog.info? 41).map (·.size) = some X.length := by rw [← HX.out, row_len, hx.1]; exact Tryd.size41
  have hiY : (Tryd.prog.info? 41).map (·.size) = some Y.length := by rw [← HY.out, row_len, hy.1]; exact Tryd.size41
  have HXW : Hid (IdW x) := hx
  have HYW : Hid (IdW y) := hy
  obtain ⟨w1, HW1⟩ : ∃ u, Hid ((w.alloc (.cells X.toArray 41)).alloc (.cells Y.toArray 41) = u) := ⟨_, rfl⟩
  have hb1 : Below w.heap.size w w1 := by rw [← HW1.out]; exact ((Below.refl _ w).alloc (Nat.le_refl _) _).alloc (by simp) _
  have hs1 : w1.heap.size = G + 2 := by rw [← HW1.out, ← HG.out]; simp
  have hx1 : w1.heap[G]? = some (.cells X.toArray 41 (0, 0)) := by
    rw [← HW1.out, ← HG.out]
    exact (heap_alloc_old _ _ (by simp)).trans (heap_alloc_new w _)
  have hy1 : w1.heap[G + 1]? = some (.cells Y.toArray 41 (0, 0)) := by
    rw [← HW1.out, ← HG.out]
    have := heap_alloc_new (w.alloc (.cells X.toArray 41)) (.cells Y.toArray 41)
    simpa using this
  have HQ : Hid (∀ W, Below (G + 2) w1 W → QS G 0 (G + 1) 0 X Y W) := fun W hW => ⟨range_row ((hW.block G (by omega)).trans hx1), range_row ((hW.block (G + 1) (by omega)).trans hy1)⟩
  have HBF : Hid (∀ W, Below (G + 2) w1 W → Below G w W) := fun W hW => (by rw [← HG.out]; exact hb1 : Below G w w1).trans (hW.mono (by omega))
  have HSZ : Hid (∀ W, Below (G + 2) w1 W → G + 2 ≤ W.heap.size) := fun W hW => by have := hW.size; omega
  have HPN : Hid (∀ W, Below (G + 2) w1 W → Pn W a cap l) := fun W hW => hP.below (by rw [HG.out]; exact HBF.out W hW)
  have HWF : Hid (∀ W, Below (G + 2) w1 W → ∀ z ∈ l, NdW W z) := fun W hW z hz => (hw z hz).below (by rw [HG.out]; exact HBF.out W hW)
  have HB1 : Hid (Below (G + 2) w1 w1) := hid (Below.refl _ _)
  have HL40 : Hid (l.length ≤ 40) := hn
  have HPS : Hid (∀ z ∈ l, z.ps.length ≤ 40) := hps
  have HW2 : Hid (∀ z ∈ l, IdW z.id) := fun z hz => (hw z hz).id
  have hn40 : n ≤ 40 := by rw [← HNL.out]; exact hn
  have HPL : Hid (0 < n → ∃ b off, a = some ⟨b, off, none⟩) := fun h0 => by
    obtain ⟨b, off, e1, _⟩ := hP.at_ (by rw [HNL.out]; exact h0)
    exact ⟨b, off, e1⟩
  have C10 : Hid (Calls Tryd.prog 10 #[.slice a n cap] w1 (PostRk l w1)) := hid (by
    have := rcheck_any a cap l (HPN.out _ HB1.out) (HWF.out _ HB1.out) hn hps
    rw [HNL.out] at this
    exact this)
  have HFD : Hid (∀ V, Below (G + 2) w1 V → ∀ u U, Hid (row .u8 u = U) → IdW u → Calls Tryd.prog 23 #[.slice a n cap, .agg U.toArray] V fun e w' => e = .returned (.int .i64 (fnd l u)) ∧ Below V.heap.size V w') := fun V hV u U hU hu => by
    have := find_any a cap l (HPN.out V hV) (fun z hz => (HW2.out z hz).1) HL40.out u hu.1
    unfold idV at this
    rw [HNL.out, hU.out] at this
    exact this
  unfold idV
  rw [HNL.out, HX.out, HY.out]
  clear hP hw hn hps hx hy hb1 hs1 hx1 hy1
  go_enter Tryd.func17, Tryd.ntmps17
  go_wp2_with fail
  rw [HW1.out, HG.out]
  refine C10.out.mono ?_
  rintro ev w2 ⟨hb2, hck⟩
  have HB2 : Hid (Below (G + 2) w1 w2) := hid (hb2.mono (HSZ.out _ HB1.out))
  clear hb2 C10
  rcases hck with ⟨hok, rfl⟩ | ⟨hno, rfl⟩
  rotate_left
  · have HNO : Hid (¬ In2 l x y) := fun h => hno h.1
    clear hno
    go_wp2
    go_ret2
    exact ⟨by rw [HG.out]; exact HBF.out _ HB2.out, .inr ⟨HNO.out, rfl⟩⟩
  have HOK : Hid (OkG l) := hok
  clear hok
  have Q2 : Hid (QS G 0 (G + 1) 0 X Y w2) := hid (HQ.out _ HB2.out)
  have CFx := HFD.out w2 HB2.out x X HX HXW.out
  by_cases hxi : x ∈ ids l
  rotate_left
  · rw [fnd_neg hxi] at CFx
    have C23 : Hid (Calls Tryd.prog 23 #[.slice a n cap, .agg X.toArray] w2 fun e w' => e = .returned (.int .i64 (-1)) ∧ Below w2.heap.size w2 w') := CFx
    have HNO : Hid (¬ In2 l x y) := fun h => hxi (h.2 x (by simp))
    clear CFx hxi
    go_wp2_with (first
      | (refine BigFrame.wpList_want (by rfl) (fun KK hKK => ?_); refine wp_load_mid 41 _ rfl G 0 rfl X _ Q2.out.r0 Tryd.underlying41 rfl hiX ?_; refine hKK _ _ ?_; clear hKK KK)
      | fail)
    refine C23.out.mono ?_
    rintro ev w3 ⟨rfl, hb3⟩
    have HB3 : Hid (Below (G + 2) w1 w3) := hid (HB2.out.trans (hb3.mono (HSZ.out _ HB2.out)))
    clear hb3
    go_wp2
    go_ret2
    exact ⟨by rw [HG.out]; exact HBF.out _ HB3.out, .inr ⟨HNO.out, rfl⟩⟩
  obtain ⟨s, hs, _, hfs⟩ := fnd_mem l x hxi
  rw [hfs] at CFx
  have C23 : Hid (Calls Tryd.prog 23 #[.slice a n cap, .agg X.toArray] w2 fun e w' => e = .returned (.int .i64 s) ∧ Below w2.heap.size w2 w') := CFx
  have HXI : Hid (x ∈ ids l) := hxi
  have hs0 : ¬ (s : Int) < 0 := by omega
  clear CFx hxi hs hfs
  go_wp2_with (first
    | (refine BigFrame.wpList_want (by rfl) (fun KK hKK => ?_); refine wp_load_mid 41 _ rfl G 0 rfl X _ Q2.out.r0 Tryd.underlying41 rfl hiX ?_; refine hKK _ _ ?_; clear hKK KK)
    | fail)
  refine C23.out.mono ?_
  rintro ev w3 ⟨rfl, hb3⟩
  have HB3 : Hid (Below (G + 2) w1 w3) := hid (HB2.out.trans (hb3.mono (HSZ.out _ HB2.out)))
  have Q3 : Hid (QS G 0 (G + 1) 0 X Y w3) := hid (HQ.out _ HB3.out)
  clear hb3 C23
  have CFy := HFD.out w3 HB3.out y Y HY HYW.out
  by_cases hyi : y ∈ ids l
  rotate_left
  · rw [fnd_neg hyi] at CFy
    have D23 : Hid (Calls Tryd.prog 23 #[.slice a n cap, .agg Y.toArray] w3 fun e w' => e = .returned (.int .i64 (-1)) ∧ Below w3.heap.size w3 w') := CFy
    have HNO : Hid (¬ In2 l x y) := fun h => hyi (h.2 y (by simp))
    clear CFy hyi
    go_wp2_with (first
      | (refine BigFrame.wpList_want (by rfl) (fun KK hKK => ?_); refine wp_load_mid 41 _ rfl (G + 1) 0 rfl Y _ Q3.out.r1 Tryd.underlying41 rfl hiY ?_; refine hKK _ _ ?_; clear hKK KK)
      | fail)
    refine D23.out.mono ?_
    rintro ev w4 ⟨rfl, hb4⟩
    have HB4 : Hid (Below (G + 2) w1 w4) := hid (HB3.out.trans (hb4.mono (HSZ.out _ HB3.out)))
    clear hb4
    go_wp2
    go_ret2
    exact ⟨by rw [HG.out]; exact HBF.out _ HB4.out, .inr ⟨HNO.out, rfl⟩⟩
  obtain ⟨t, ht, hty, hft⟩ := fnd_mem l y hyi
  rw [hft] at CFy
  have D23 : Hid (Calls Tryd.prog 23 #[.slice a n cap, .agg Y.toArray] w3 fun e w' => e = .returned (.int .i64 t) ∧ Below w3.heap.size w3 w') := CFy
  have HYI : Hid (y ∈ ids l) := hyi
  have HTL : Hid (t < l.length) := ht
  have HTY : Hid ((l.getD t nd0).id = y) := hty
  have HFT : Hid (fnd l y = (t : Int)) := hft
  have htn : t < n := by rw [← HNL.out]; exact ht
  have htni : (t : Int) < (n : Int) := by omega
  have ht0 : ¬ (t : Int) < 0 := by omega
  have HIN : Hid (In2 l x y) := hid ⟨HOK.out, fun z hz => by
    rcases List.mem_cons.1 hz with rfl | hz
    · exact HXI.out
    · rw [List.mem_singleton.1 hz]; exact hyi⟩
  clear CFy hyi ht hty hft
  go_wp2_with (first
    | (refine BigFrame.wpList_want (by rfl) (fun KK hKK => ?_); refine wp_load_mid 41 _ rfl (G + 1) 0 rfl Y _ Q3.out.r1 Tryd.underlying41 rfl hiY ?_; refine hKK _ _ ?_; clear hKK KK)
    | fail)
  refine D23.out.mono ?_
  rintro ev w4 ⟨rfl, hb4⟩
  have HB4 : Hid (Below (G + 2) w1 w4) := hid (HB3.out.trans (hb4.mono (HSZ.out _ HB3.out)))
  have Q4 : Hid (QS G 0 (G + 1) 0 X Y w4) := hid (HQ.out _ HB4.out)
  obtain ⟨K4, HK4⟩ : ∃ K, Hid (w4.heap.size = K) := ⟨_, rfl⟩
  obtain ⟨w5, HW5⟩ : ∃ u, Hid (w4.alloc (.cells X.toArray 41) = u) := ⟨_, rfl⟩
  have HBLD : Hid ((Instr.buildSlice 35 1 #[(0, .agg X.toArray)]).run Tryd.prog w4 = .ok (.slice (some ⟨K4, 0, none⟩) 1 1) w5) := hid (by rw [← HW5.out, ← HK4.out, ← HX.out]; exact run_build35 x HXW.out.1 w4)
  have hb5 : Below w4.heap.size w4 w5 := by rw [← HW5.out]; exact (Below.refl _ w4).alloc (Nat.le_refl _) _
  have HB5 : Hid (Below (G + 2) w1 w5) := hid (HB4.out.trans (hb5.mono (HSZ.out _ HB4.out)))
  have C24 : Hid (Calls Tryd.prog 24 #[.slice a n cap, .slice (some ⟨K4, 0, none⟩) 1 1] w5 (PostRc l [x] w5.heap.size n w5)) := hid (by
    have := reach_any a cap l (HPN.out _ HB5.out) (HWF.out _ HB5.out) HL40.out HPS.out HOK.out.one HOK.out.par (some ⟨K4, 0, none⟩) 1 [x] (by rw [← HW5.out, ← HK4.out, ← HX.out]; exact pa_one w4 x 41) (fun u hu => by rw [List.mem_singleton.1 hu]; exact HXW.out) (by simp) (fun u hu => by rw [List.mem_singleton.1 hu]; exact HXI.out)
    rw [HNL.out] at this
    exact this)
  clear hb4 hb5 D23
  go_wp2_with (first
    | refine wpList_load_mid rfl 41 _ rfl G 0 rfl X _ Q4.out.r0 Tryd.underlying41 rfl hiX ?_
    | refine wpList_bS rfl 35 1 _ rfl (.agg X.toArray) _ rfl HBLD.out ?_
    | fail)
  refine C24.out.mono ?_
  rintro ev w6 ⟨mx, rfl, hmk, hr⟩
  obtain ⟨K6, HK6⟩ : ∃ K, Hid (w5.heap.size = K) := ⟨_, rfl⟩
  rw [HK6.out] at hmk ⊢
  have HB6 : Hid (Below (G + 2) w1 w6) := hid (HB5.out.trans (hmk.below.mono (by rw [← HK6.out]; exact HSZ.out _ HB5.out)))
  have HLM : Hid (LM K6 n w6 mx) := hid hmk.lm
  have HRX : Hid (∀ t, t < l.length → (mx.getD t false = true ↔ Rch l (· ∈ [x]) (l.getD t nd0).id)) := hr
  have Q6 : Hid (QS G 0 (G + 1) 0 X Y w6) := hid (HQ.out _ HB6.out)
  clear hmk hr C24
  have E23 : Hid (Calls Tryd.prog 23 #[.slice a n cap, .agg Y.toArray] w6 fun e w' => e = .returned (.int .i64 t) ∧ Below w6.heap.size w6 w') := hid (by
    have := HFD.out w6 HB6.out y Y HY HYW.out
    rw [HFT.out] at this
    exact this)
  go_wp2_with (first
    | refine wpList_load_mid rfl 41 _ rfl (G + 1) 0 rfl Y _ Q6.out.r1 Tryd.underlying41 rfl hiY ?_
    | fail)
  refine E23.out.mono ?_
  rintro ev w7 ⟨rfl, hb7⟩
  have HB7 : Hid (Below (G + 2) w1 w7) := hid (HB6.out.trans (hb7.mono (HSZ.out _ HB6.out)))
  obtain ⟨hcell, _⟩ := (HLM.out.below hb7).cell t htn
  obtain ⟨bt, HBT⟩ : ∃ q, Hid (mx.getD t false = q) := ⟨_, rfl⟩
  rw [HBT.out] at hcell
  have HBR : Hid (BIf bt (Rch l (· ∈ [x]) y)) := hid (by have := HRX.out t HTL.out; rw [HTY.out, HBT.out] at this; exact this)
  clear hb7
  go_wp2
  go_ret2
  exact ⟨by rw [HG.out]; exact HBF.out _ HB7.out, .inl ⟨HIN.out, bt, HBR.out, rfl⟩⟩
set_option maxRecDepth 20000 in
set_option maxHeartbeats 4000000 in
theorem rbases_any {w : World} (a : Option Addr) (cap : Nat) (l : List Nd) (hP : Pn w a cap l) (hw : ∀ x ∈ l, NdW w x) (hn : l.length ≤ 40) (hps : ∀ x ∈ l, x.ps.length ≤ 40) (x y : List Int) (hx : IdW x) (hy : IdW y) :
    Calls Tryd.prog 19 #[.slice a l.length cap, idV x, idV y] w (PostBq l x y w) := by
  obtain ⟨G, HG⟩ : ∃ G, Hid (w.heap.size = G) := ⟨_, rfl⟩
  obtain ⟨n, HNL⟩ : ∃ n, Hid (l.length = n) := ⟨_, rfl⟩
  obtain ⟨X, HX⟩ : ∃ X : List Value, Hid (row .u8 x = X) := ⟨_, rfl⟩
  obtain ⟨Y, HY⟩ : ∃ X : List Value, Hid (row .u8 y = X) := ⟨_, rfl⟩
  have hiX : (Tryd.prog.info? 41).map (·.size) = some X.length := by rw [← HX.out, row_len, hx.1]; exact Tryd.size41
  have hiY : (Tryd.prog.info? 41).map (·.size) = some Y.length := by rw [← HY.out, row_len, hy.1]; exact Tryd.size41
  have HXW : Hid (IdW x) := hx
  have HYW : Hid (IdW y) := hy
  obtain ⟨w1, HW1⟩ : ∃ u, Hid ((w.alloc (.cells X.toArray 41)).alloc (.cells Y.toArray 41) = u) := ⟨_, rfl⟩
  have hb1 : Below w.heap.size w w1 := by rw [← HW1.out]; exact ((Below.refl _ w).alloc (Nat.le_refl _) _).alloc (by simp) _
  have hs1 : w1.heap.size = G + 2 := by rw [← HW1.out, ← HG.out]; simp
  have hx1 : w1.heap[G]? = some (.cells X.toArray 41 (0, 0)) := by
    rw [← HW1.out, ← HG.out]
    exact (heap_alloc_old _ _ (by simp)).trans (heap_alloc_new w _)
  have hy1 : w1.heap[G + 1]? = some (.cells Y.toArray 41 (0, 0)) := by
    rw [← HW1.out, ← HG.out]
    have := heap_alloc_new (w.alloc (.cells X.toArray 41)) (.cells Y.toArray 41)
    simpa using this
  have HQ : Hid (∀ W, Below (G + 2) w1 W → QS G 0 (G + 1) 0 X Y W) := fun W hW => ⟨range_row ((hW.block G (by omega)).trans hx1), range_row ((hW.block (G + 1) (by omega)).trans hy1)⟩
  have HBF : Hid (∀ W, Below (G + 2) w1 W → Below G w W) := fun W hW => (by rw [← HG.out]; exact hb1 : Below G w w1).trans (hW.mono (by omega))
  have HSZ : Hid (∀ W, Below (G + 2) w1 W → G + 2 ≤ W.heap.size) := fun W hW => by have := hW.size; omega
  have HPN : Hid (∀ W, Below (G + 2) w1 W → Pn W a cap l) := fun W hW => hP.below (by rw [HG.out]; exact HBF.out W hW)
  have HWF : Hid (∀ W, Below (G + 2) w1 W → ∀ z ∈ l, NdW W z) := fun W hW z hz => (hw z hz).below (by rw [HG.out]; exact HBF.out W hW)
  have HB1 : Hid (Below (G + 2) w1 w1) := hid (Below.refl _ _)
  have HL40 : Hid (l.length ≤ 40) := hn
  have HPS : Hid (∀ z ∈ l, z.ps.length ≤ 40) := hps
  have HW2 : Hid (∀ z ∈ l, IdW z.id) := fun z hz => (hw z hz).id
  have hn40 : n ≤ 40 := by rw [← HNL.out]; exact hn
  have HPL : Hid (0 < n → ∃ b off, a = some ⟨b, off, none⟩) := fun h0 => by
    obtain ⟨b, off, e1, _⟩ := hP.at_ (by rw [HNL.out]; exact h0)
    exact ⟨b, off, e1⟩
  have C10 : Hid (Calls Tryd.prog 10 #[.slice a n cap] w1 (PostRk l w1)) := hid (by
    have := rcheck_any a cap l (HPN.out _ HB1.out) (HWF.out _ HB1.out) hn hps
    rw [HNL.out] at this
    exact this)
  have HFD : Hid (∀ V, Below (G + 2) w1 V → ∀ u U, Hid (row .u8 u = U) → IdW u → Calls Tryd.prog 23 #[.slice a n cap, .agg U.toArray] V fun e w' => e = .returned (.int .i64 (fnd l u)) ∧ Below V.heap.size V w') := fun V hV u U hU hu => by
    have := find_any a cap l (HPN.out V hV) (fun z hz => (HW2.out z hz).1) HL40.out u hu.1
    unfold idV at this
    rw [HNL.out, hU.out] at this
    exact this
  unfold idV
  rw [HNL.out, HX.out, HY.out]
  clear hP hw hn hps hx hy hb1 hs1 hx1 hy1
  go_enter Tryd.func19, Tryd.ntmps19
  go_wp2_with fail
  rw [HW1.out, HG.out]
  refine C10.out.mono ?_
  rintro ev w2 ⟨hb2, hck⟩
  have HB2 : Hid (Below (G + 2) w1 w2) := hid (hb2.mono (HSZ.out _ HB1.out))
  clear hb2 C10
  rcases hck with ⟨hok, rfl⟩ | ⟨hno, rfl⟩
  rotate_left
  · have HNO : Hid (¬ In2 l x y) := fun h => hno h.1
    clear hno
    go_wp2
    go_ret2
    exact ⟨by rw [HG.out]; exact HBF.out _ HB2.out, .inr ⟨HNO.out, rfl⟩⟩
  have HOK : Hid (OkG l) := hok
  clear hok
  have Q2 : Hid (QS G 0 (G + 1) 0 X Y w2) := hid (HQ.out _ HB2.out)
  have CFx := HFD.out w2 HB2.out x X HX HXW.out
  by_cases hxi : x ∈ ids l
  rotate_left
  · rw [fnd_neg hxi] at CFx
    have C23 : Hid (Calls Tryd.prog 23 #[.slice a n cap, .agg X.toArray] w2 fun e w' => e = .returned (.int .i64 (-1)) ∧ Below w2.heap.size w2 w') := CFx
    have HNO : Hid (¬ In2 l x y) := fun h => hxi (h.2 x (by simp))
    clear CFx hxi
    go_wp2_with (first
      | (refine BigFrame.wpList_want (by rfl) (fun KK hKK => ?_); refine wp_load_mid 41 _ rfl G 0 rfl X _ Q2.out.r0 Tryd.underlying41 rfl hiX ?_; refine hKK _ _ ?_; clear hKK KK)
      | fail)
    refine C23.out.mono ?_
    rintro ev w3 ⟨rfl, hb3⟩
    have HB3 : Hid (Below (G + 2) w1 w3) := hid (HB2.out.trans (hb3.mono (HSZ.out _ HB2.out)))
    clear hb3
    go_wp2
    go_ret2
    exact ⟨by rw [HG.out]; exact HBF.out _ HB3.out, .inr ⟨HNO.out, rfl⟩⟩
  obtain ⟨s, hs, _, hfs⟩ := fnd_mem l x hxi
  rw [hfs] at CFx
  have C23 : Hid (Calls Tryd.prog 23 #[.slice a n cap, .agg X.toArray] w2 fun e w' => e = .returned (.int .i64 s) ∧ Below w2.heap.size w2 w') := CFx
  have HXI : Hid (x ∈ ids l) := hxi
  have hs0 : ¬ (s : Int) < 0 := by omega
  clear CFx hxi hs hfs
  go_wp2_with (first
    | (refine BigFrame.wpList_want (by rfl) (fun KK hKK => ?_); refine wp_load_mid 41 _ rfl G 0 rfl X _ Q2.out.r0 Tryd.underlying41 rfl hiX ?_; refine hKK _ _ ?_; clear hKK KK)
    | fail)
  refine C23.out.mono ?_
  rintro ev w3 ⟨rfl, hb3⟩
  have HB3 : Hid (Below (G + 2) w1 w3) := hid (HB2.out.trans (hb3.mono (HSZ.out _ HB2.out)))
  have Q3 : Hid (QS G 0 (G + 1) 0 X Y w3) := hid (HQ.out _ HB3.out)
  clear hb3 C23
  have CFy := HFD.out w3 HB3.out y Y HY HYW.out
  by_cases hyi : y ∈ ids l
  rotate_left
  · rw [fnd_neg hyi] at CFy
    have D23 : Hid (Calls Tryd.prog 23 #[.slice a n cap, .agg Y.toArray] w3 fun e w' => e = .returned (.int .i64 (-1)) ∧ Below w3.heap.size w3 w') := CFy
    have HNO : Hid (¬ In2 l x y) := fun h => hyi (h.2 y (by simp))
    clear CFy hyi
    go_wp2_with (first
      | (refine BigFrame.wpList_want (by rfl) (fun KK hKK => ?_); refine wp_load_mid 41 _ rfl (G + 1) 0 rfl Y _ Q3.out.r1 Tryd.underlying41 rfl hiY ?_; refine hKK _ _ ?_; clear hKK KK)
      | fail)
    refine D23.out.mono ?_
    rintro ev w4 ⟨rfl, hb4⟩
    have HB4 : Hid (Below (G + 2) w1 w4) := hid (HB3.out.trans (hb4.mono (HSZ.out _ HB3.out)))
    clear hb4
    go_wp2
    go_ret2
    exact ⟨by rw [HG.out]; exact HBF.out _ HB4.out, .inr ⟨HNO.out, rfl⟩⟩
  obtain ⟨t, ht, hty, hft⟩ := fnd_mem l y hyi
  rw [hft] at CFy
  have D23 : Hid (Calls Tryd.prog 23 #[.slice a n cap, .agg Y.toArray] w3 fun e w' => e = .returned (.int .i64 t) ∧ Below w3.heap.size w3 w') := CFy
  have HYI : Hid (y ∈ ids l) := hyi
  have HTL : Hid (t < l.length) := ht
  have HTY : Hid ((l.getD t nd0).id = y) := hty
  have HFT : Hid (fnd l y = (t : Int)) := hft
  have htn : t < n := by rw [← HNL.out]; exact ht
  have htni : (t : Int) < (n : Int) := by omega
  have ht0 : ¬ (t : Int) < 0 := by omega
  have HIN : Hid (In2 l x y) := hid ⟨HOK.out, fun z hz => by
    rcases List.mem_cons.1 hz with rfl | hz
    · exact HXI.out
    · rw [List.mem_singleton.1 hz]; exact hyi⟩
  clear CFy hyi ht hty hft
  go_wp2_with (first
    | (refine BigFrame.wpList_want (by rfl) (fun KK hKK => ?_); refine wp_load_mid 41 _ rfl (G + 1) 0 rfl Y _ Q3.out.r1 Tryd.underlying41 rfl hiY ?_; refine hKK _ _ ?_; clear hKK KK)
    | fail)
  refine D23.out.mono ?_
  rintro ev w4 ⟨rfl, hb4⟩
  have HB4 : Hid (Below (G + 2) w1 w4) := hid (HB3.out.trans (hb4.mono (HSZ.out _ HB3.out)))
  have Q4 : Hid (QS G 0 (G + 1) 0 X Y w4) := hid (HQ.out _ HB4.out)
  obtain ⟨K4, HK4⟩ : ∃ K, Hid (w4.heap.size = K) := ⟨_, rfl⟩
  obtain ⟨w5, HW5⟩ : ∃ u, Hid (w4.alloc (.cells X.toArray 41) = u) := ⟨_, rfl⟩
  have HBLD : Hid ((Instr.buildSlice 35 1 #[(0, .agg X.toArray)]).run Tryd.prog w4 = .ok (.slice (some ⟨K4, 0, none⟩) 1 1) w5) := hid (by rw [← HW5.out, ← HK4.out, ← HX.out]; exact run_build35 x HXW.out.1 w4)
  have hb5 : Below w4.heap.size w4 w5 := by rw [← HW5.out]; exact (Below.refl _ w4).alloc (Nat.le_refl _) _
  have HB5 : Hid (Below (G + 2) w1 w5) := hid (HB4.out.trans (hb5.mono (HSZ.out _ HB4.out)))
  have C24 : Hid (Calls Tryd.prog 24 #[.slice a n cap, .slice (some ⟨K4, 0, none⟩) 1 1] w5 (PostRc l [x] w5.heap.size n w5)) := hid (by
    have := reach_any a cap l (HPN.out _ HB5.out) (HWF.out _ HB5.out) HL40.out HPS.out HOK.out.one HOK.out.par (some ⟨K4, 0, none⟩) 1 [x] (by rw [← HW5.out, ← HK4.out, ← HX.out]; exact pa_one w4 x 41) (fun u hu => by rw [List.mem_singleton.1 hu]; exact HXW.out) (by simp) (fun u hu => by rw [List.mem_singleton.1 hu]; exact HXI.out)
    rw [HNL.out] at this
    exact this)
  clear hb4 hb5 D23
  go_wp2_with (first
    | refine wpList_load_mid rfl 41 _ rfl G 0 rfl X _ Q4.out.r0 Tryd.underlying41 rfl hiX ?_
    | refine wpList_bS rfl 35 1 _ rfl (.agg X.toArray) _ rfl HBLD.out ?_
    | fail)
  refine C24.out.mono ?_
  rintro ev w6 ⟨mx, rfl, hmk, hr⟩
  obtain ⟨K6, HK6⟩ : ∃ K, Hid (w5.heap.size = K) := ⟨_, rfl⟩
  rw [HK6.out] at hmk ⊢
  have HB6 : Hid (Below (G + 2) w1 w6) := hid (HB5.out.trans (hmk.below.mono (by rw [← HK6.out]; exact HSZ.out _ HB5.out)))
  have HLM : Hid (LM K6 n w6 mx) := hid hmk.lm
  have HRX : Hid (∀ t, t < l.length → (mx.getD t false = true ↔ Rch l (· ∈ [x]) (l.getD t nd0).id)) := hr
  have Q6 : Hid (QS G 0 (G + 1) 0 X Y w6) := hid (HQ.out _ HB6.out)
  clear hmk hr C24
  obtain ⟨K7, HK7⟩ : ∃ K, Hid (w6.heap.size = K) := ⟨_, rfl⟩
  obtain ⟨w7, HW7⟩ : ∃ u, Hid (w6.alloc (.cells Y.toArray 41) = u) := ⟨_, rfl⟩
  have HBL7 : Hid ((Instr.buildSlice 35 1 #[(0, .agg Y.toArray)]).run Tryd.prog w6 = .ok (.slice (some ⟨K7, 0, none⟩) 1 1) w7) := hid (by rw [← HW7.out, ← HK7.out, ← HY.out]; exact run_build35 y HYW.out.1 w6)
  have hb7 : Below w6.heap.size w6 w7 := by rw [← HW7.out]; exact (Below.refl _ w6).alloc (Nat.le_refl _) _
  have HB7 : Hid (Below (G + 2) w1 w7) := hid (HB6.out.trans (hb7.mono (HSZ.out _ HB6.out)))
  have HLM7 : Hid (LM K6 n w7 mx) := hid (HLM.out.below hb7)
  have D24 : Hid (Calls Tryd.prog 24 #[.slice a n cap, .slice (some ⟨K7, 0, none⟩) 1 1] w7 (PostRc l [y] w7.heap.size n w7)) := hid (by
    have := reach_any a cap l (HPN.out _ HB7.out) (HWF.out _ HB7.out) HL40.out HPS.out HOK.out.one HOK.out.par (some ⟨K7, 0, none⟩) 1 [y] (by rw [← HW7.out, ← HK7.out, ← HY.out]; exact pa_one w6 y 41) (fun u hu => by rw [List.mem_singleton.1 hu]; exact HYW.out) (by simp) (fun u hu => by rw [List.mem_singleton.1 hu]; exact HYI.out)
    rw [HNL.out] at this
    exact this)
  clear hb7
  go_wp2_with (first
    | refine wpList_load_mid rfl 41 _ rfl (G + 1) 0 rfl Y _ Q6.out.r1 Tryd.underlying41 rfl hiY ?_
    | refine wpList_bS rfl 35 1 _ rfl (.agg Y.toArray) _ rfl HBL7.out ?_
    | fail)
  refine D24.out.mono ?_
  rintro ev w8 ⟨my, rfl, hmk, hr⟩
  obtain ⟨K8, HK8⟩ : ∃ K, Hid (w7.heap.size = K) := ⟨_, rfl⟩
  rw [HK8.out] at hmk ⊢
  have hB8 : Below (G + 2) w1 w8 := HB7.out.trans (hmk.below.mono (by rw [← HK8.out]; exact HSZ.out _ HB7.out))
  have hLM8 := HLM7.out.below (by rw [HK8.out]; exact hmk.below)
  have hLY8 := hmk.lm
  have HRY : Hid (∀ t, t < l.length → (my.getD t false = true ↔ Rch l (· ∈ [y]) (l.getD t nd0).id)) := hr
  obtain ⟨G8, HG8⟩ : ∃ K, Hid (w8.heap.size = K) := ⟨_, rfl⟩
  have HBB : Hid (∀ V, Below G8 w8 V → Below (G + 2) w1 V) := fun V hV => hB8.trans (hV.mono (by rw [← HG8.out]; exact HSZ.out _ hB8))
  have HMX : Hid (∀ V, Below G8 w8 V → LM K6 n V mx) := fun V hV => hLM8.below (by rw [HG8.out]; exact hV)
  have HMY : Hid (∀ V, Below G8 w8 V → LM K8 n V my) := fun V hV => hLY8.below (by rw [HG8.out]; exact hV)
  obtain ⟨f, HF⟩ : ∃ f : Nd → Bool, Hid (∀ z, f z = true ↔ Bth l x y z.id) := by
    classical
    exact ⟨fun z => decide (Bth l x y z.id), fun z => by simp only [decide_eq_true_eq]⟩
  have HV0 : Hid (Bi 41 w8 w8 G8 (.slice none 0 0) (ids ((l.take 0).filter f))) := hid (bx_nil 41 w8 _ (by rw [HG8.out]; exact Nat.le_refl _))
  clear hmk hr hB8 hLM8 hLY8 D24 ht0 hs0
  go_wp2_with fail
  go_loopg [11, 12] n (fun gg ov iv wr => ∃ (i : Nat) (v : Value), v = ov ∧ i ≤ n ∧ gg = n - i ∧ iv = .int .i64 i ∧ Hid (Bi 41 w8 wr G8 v (ids ((l.take i).filter f))))
  case atStart => exact ⟨0, _, rfl, Nat.zero_le _, rfl, rfl, HV0⟩
  case round =>
    clear HV0
    obtain ⟨i, v, hv, hi, hgi, rfl, HV⟩ := hrel
    subst hv
    by_cases hlt : i < n
    · have hlti : (i : Int) < (n : Int) := by omega
      obtain ⟨b, off, hae⟩ := HPL.out (by omega)
      subst hae
      obtain ⟨z, HZ⟩ : ∃ q, Hid (l.getD i nd0 = q) := ⟨_, rfl⟩
      have HZM : Hid (z ∈ l) := hid (by rw [← HZ.out]; exact getD_mem _ i _ (by rw [HNL.out]; exact hlt))
      have HZW : Hid (IdW z.id) := HW2.out z HZM.out
      obtain ⟨cx, _⟩ := (HMX.out wr HV.out.below).cell i hlt
      obtain ⟨cy, _⟩ := (HMY.out wr HV.out.below).cell i hlt
      obtain ⟨bx, HBX⟩ : ∃ q, Hid (mx.getD i false = q) := ⟨_, rfl⟩
      obtain ⟨by', HBY⟩ : ∃ q, Hid (my.getD i false = q) := ⟨_, rfl⟩
      rw [HBX.out] at cx
      rw [HBY.out] at cy
      have HFZ : Hid (f z = (bx && by')) := hid (by
        have h1 := HRX.out i (by rw [HNL.out]; exact hlt)
        have h2 := HRY.out i (by rw [HNL.out]; exact hlt)
        rw [HZ.out, HBX.out] at h1
        rw [HZ.out, HBY.out] at h2
        rw [Bool.eq_iff_iff, HF.out z, Bool.and_eq_true, h1, h2]
        exact Iff.rfl)
      have HTK : Hid (ids ((l.take (i + 1)).filter f) = ids ((l.take i).filter f) ++ ids ([z].filter f)) := hid (by rw [take_snocG nd0 l i (by rw [HNL.out]; exact hlt), HZ.out, List.filter_append]; unfold ids; rw [List.map_append])
      cases bx with
      | false =>
        have HV9 : Hid (Bi 41 w8 wr G8 v (ids ((l.take (i + 1)).filter f))) := hid (by
          have e : f z = false := by rw [HFZ.out]; rfl
          rw [HTK.out, show [z].filter f = [] by simp [e], show ids [] = [] from rfl, List.append_nil]; exact HV.out)
        go_wp2
        go_roundg (n - (i + 1))
        case measure => omega
        case rel => exact ⟨i + 1, v, rfl, by omega, rfl, by go_num, HV9⟩
      | true =>
        cases by' with
        | false =>
          have HV9 : Hid (Bi 41 w8 wr G8 v (ids ((l.take (i + 1)).filter f))) := hid (by
            have e : f z = false := by rw [HFZ.out]; rfl
            rw [HTK.out, show [z].filter f = [] by simp [e], show ids [] = [] from rfl, List.append_nil]; exact HV.out)
          go_wp2
          go_roundg (n - (i + 1))
          case measure => omega
          case rel => exact ⟨i + 1, v, rfl, by omega, rfl, by go_num, HV9⟩
        | true =>
          have HYES : Hid (ids ([z].filter f) = [z.id]) := hid (by
            have e : f z = true := by rw [HFZ.out]; rfl
            rw [show [z].filter f = [z] by simp [e]]; rfl)
          obtain ⟨RZ, HRZ⟩ : ∃ R : List Value, Hid (row .u8 z.id = R) := ⟨_, rfl⟩
          have hiZ : (Tryd.prog.info? 41).map (·.size) = some RZ.length := by rw [← HRZ.out, row_len, HZW.out.1]; exact Tryd.size41
          have RR : Hid (wr.rangeAt b (off + i * 22) RZ) := hid (by
            obtain ⟨b', off', e1, _, e3⟩ := (HPN.out wr (HBB.out _ HV.out.below)).at_ (by rw [HNL.out]; omega)
            cases e1
            have := nd_id (e3 i (by rw [HNL.out]; exact hlt))
            rw [HZ.out, HRZ.out] at this
            exact this)
          obtain ⟨K9, HK9⟩ : ∃ K, Hid (wr.heap.size = K) := ⟨_, rfl⟩
          have HBL9 : Hid ((Instr.buildSlice 35 1 #[(0, .agg RZ.toArray)]).run Tryd.prog wr = .ok (.slice (some ⟨K9, 0, none⟩) 1 1) (wr.alloc (.cells RZ.toArray 41))) := hid (by rw [← HK9.out, ← HRZ.out]; exact run_build35 z.id HZW.out.1 wr)
          have HVA : Hid (Bi 41 w8 (wr.alloc (.cells RZ.toArray 41)) G8 v (ids ((l.take i).filter f))) := hid (HV.out.alloc _)
          have HP8 : Hid (Pa (wr.alloc (.cells RZ.toArray 41)) (some ⟨K9, 0, none⟩) 1 [z.id]) := hid (by rw [← HK9.out, ← HRZ.out]; exact pa_one wr z.id 41)
          have HSUM : Hid ((ids ((l.take i).filter f)).length + [z.id].length ≤ 30000) := hid (by
            have h1 := List.length_filter_le f (l.take i)
            rw [List.length_take, HNL.out] at h1
            unfold ids
            rw [List.length_map]
            simp only [List.length_cons, List.length_nil]
            omega)
          have HONE1 : Hid (∀ u ∈ [z.id], (row .u8 u).length = 20) := fun u hu => by rw [List.mem_singleton.1 hu, row_len]; exact HZW.out.1
          go_wp2_with (first
            | refine wpList_load_mid rfl 41 _ rfl b (off + i * 22) rfl RZ _ RR.out Tryd.underlying41 rfl hiZ ?_
            | refine wpList_bS rfl 35 1 _ rfl (.agg RZ.toArray) _ rfl HBL9.out ?_
            | (refine wpList_bx_sl (d := []) rfl _ _ 35 41 Tryd.underlying35 Tryd.info41 rfl (by decide) (by decide) (fun z => row_one _ z) rfl G8 v _ rfl HVA.out (some ⟨K9, 0, none⟩) 1 [z.id] rfl HP8.out HONE1.out HSUM.out ?_; intro v9 w9 hb9 hg9)
            | fail)
          have HV9 : Hid (Bi 41 w8 w9 G8 v9 (ids ((l.take (i + 1)).filter f))) := hid (by rw [HTK.out, HYES.out]; exact hb9)
          clear hb9 hg9
          go_roundg (n - (i + 1))
          case measure => omega
          case rel => exact ⟨i + 1, v9, rfl, by omega, rfl, by go_num, HV9⟩
    · have hlti : ¬ (i : Int) < (n : Int) := by omega
      obtain ⟨F, HFe⟩ : ∃ F, Hid (ids (l.filter f) = F) := ⟨_, rfl⟩
      have hVZ : Bi 41 w8 wr G8 v F := by
        have := HV.out
        rw [List.take_of_length_le (by rw [HNL.out]; omega), HFe.out] at this
        exact this
      have hmem : ∀ u, u ∈ F ↔ u ∈ ids l ∧ Bth l x y u := fun u => by
        rw [← HFe.out]
        constructor
        · intro hu
          obtain ⟨z, hz, rfl⟩ := List.mem_map.1 hu
          obtain ⟨h1, h2⟩ := List.mem_filter.1 hz
          exact ⟨mem_ids h1, (HF.out z).1 h2⟩
        · rintro ⟨h1, h2⟩
          obtain ⟨z, hz, rfl⟩ := List.mem_map.1 h1
          exact mem_ids (List.mem_filter.2 ⟨hz, (HF.out z).2 h2⟩)
      have hFi : ∀ u ∈ F, IdW u := fun u hu => by
        obtain ⟨z, hz, rfl⟩ := List.mem_map.1 ((hmem u).1 hu).1
        exact HW2.out z hz
      have HFE : Hid (∀ u, u ∈ F ↔ Bth l x y u) := fun u => (hmem u).trans ⟨fun h => h.2, fun h => ⟨rch_in HOK.out.par (fun z hz => by rw [List.mem_singleton.1 hz]; exact HXI.out) u h.1, h⟩⟩
      have HFS : Hid (∀ u ∈ F, u ∈ ids l) := fun u hu => ((hmem u).1 hu).1
      have hFl : F.length ≤ 40 := by
        rw [← HFe.out]
        unfold ids
        rw [List.length_map]
        exact Nat.le_trans (List.length_filter_le _ _) HL40.out
      obtain ⟨va, vc, hve, hvp, _, _⟩ := hVZ.px (d := []) (fun u hu => by rw [row_len]; exact (hFi u hu).1)
      subst hve
      obtain ⟨nF, HNF⟩ : ∃ k, Hid (F.length = k) := ⟨_, rfl⟩
      have HBr : Hid (Below (G + 2) w1 wr) := hid (HBB.out _ hVZ.below)
      have C21 : Hid (Calls Tryd.prog 21 #[.slice a n cap, .slice va nF vc] wr (PostRr l F wr)) := hid (by
        have := rreduce_any a cap l (HPN.out _ HBr.out) (HWF.out _ HBr.out) HL40.out HPS.out va vc F hvp hFi hFl
        rw [HNL.out, HNF.out] at this
        exact this)
      rw [HNF.out]
      clear hVZ hmem hFi hFl hvp
      go_wp2_with fail
      refine C21.out.mono ?_
      rintro ev w9 ⟨hb9, ⟨_, oa, oc, O, rfl, q1, q2, q3⟩ | ⟨hno, _⟩⟩
      · have HB9 : Hid (Below (G + 2) w1 w9) := hid (HBr.out.trans (hb9.mono (HSZ.out _ HBr.out)))
        have H1 : Hid (Lst' (Tq l (Bth l x y)) O) := hid (q1.congr (fun u => tq_congr HFE.out u))
        have H2 : Hid (Rs O) := q2
        have H3 : Hid (Pa w9 oa oc O) := q3
        clear hb9 q1 q2 q3
        go_wp2
        go_ret2
        exact ⟨by rw [HG.out]; exact HBF.out _ HB9.out, .inl ⟨HIN.out, oa, oc, O, rfl, H1.out, H2.out, H3.out⟩⟩
      · exact absurd ⟨HOK.out, HFS.out⟩ hno
end Go.Proofs.YtjgjeedablgmeaaDoor
