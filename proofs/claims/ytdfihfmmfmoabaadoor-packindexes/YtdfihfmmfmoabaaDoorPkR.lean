/- The program's 'Find'. -/
import Derived.Test.YtdfihfmmfmoabaaDoorPkQ
import Derived.Test.YtdfihfmmfmoabaaDoorPkP
namespace Go.Proofs.YtdfihfmmfmoabaaDoor
open Go.RowKit Go.Shelf
variable [Inhabited Pn]
set_option linter.unusedVariables false
set_option linter.unusedSectionVars false
set_option linter.unusedSimpArgs false
/-- What 'Find' gives. -/
def PostFi (B y : List Int) (w : World) (e : Ending) (w' : World) : Prop := Below w.heap.size w w' ∧
  (((1072 ≤ B.length ∧ Idx B) ∧ ((∃ p ∈ rdP B ((B.length - 1072) / 28), p.id = y ∧ e = .returned (.tuple #[.int .i64 p.off, .nilIface])) ∨ (y ∉ (rdP B ((B.length - 1072) / 28)).map (·.id) ∧ e = .returned (.tuple #[.int .i64 0, .iface 38 (.int .i64 50)])))) ∨
   (¬ (1072 ≤ B.length ∧ Idx B) ∧ e = .returned (.tuple #[.int .i64 0, .iface 38 (.int .i64 42)])))
set_option maxRecDepth 20000 in
set_option maxHeartbeats 4000000 in
theorem find_any (a : Option Addr) (cap : Nat) (B y : List Int) (w : World) (hz : IsB B) (hlen : B.length ≤ 20000) (hS : Sl w a cap B) (hy : y.length = 20) (hyb : IsB y) :
    Calls Tryd.prog 21 #[.slice a B.length cap, .agg (row .u8 y).toArray] w (PostFi B y w) := by
  obtain ⟨G, HG⟩ : ∃ G, Hid (w.heap.size = G) := ⟨_, rfl⟩
  obtain ⟨LN, HLN⟩ : ∃ n, Hid (B.length = n) := ⟨_, rfl⟩
  have hLN : LN ≤ 20000 := by rw [← HLN.out]; exact hlen
  obtain ⟨n, HN⟩ : ∃ n, Hid ((B.length - 1072) / 28 = n) := ⟨_, rfl⟩
  have hn7 : n ≤ 700 := by rw [← HN.out]; omega
  obtain ⟨l, HL⟩ : ∃ l, Hid (rdP B n = l) := ⟨_, rfl⟩
  have HLL : Hid (l.length = n) := hid (by rw [← HL.out]; exact rdP_len B n)
  obtain ⟨Y, HY⟩ : ∃ S : List Value, Hid (row .u8 y = S) := ⟨_, rfl⟩
  obtain ⟨zr, HZ⟩ : ∃ zr : Array Value, Hid (zr = (row .u8 z20).toArray) := ⟨_, rfl⟩
  have hz24 : ∀ w : World, (zeroValue 24).run Tryd.prog w = .ok (.agg zr) w := fun w => by rw [HZ.out]; kernel_rfl
  have HZS : Hid (zr.size = 20) := hid (by rw [HZ.out]; rfl)
  have IZ : Hid ((Tryd.prog.info? 24).map (·.size) = some zr.size) := hid (by rw [HZS.out]; exact Tryd.size24)
  have OZ : Hid (zr.all (·.oneCell') = true) := hid (by rw [HZ.out]; exact all_oneCell_toArray (row_one _ _))
  have hiY : (Tryd.prog.info? 24).map (·.size) = some Y.length := by rw [← HY.out, row_len, hy]; exact Tryd.size24'
  obtain ⟨w1, HW1⟩ : ∃ w1, Hid (w.alloc (.cells Y.toArray 24) = w1) := ⟨_, rfl⟩
  have hb1 : Below w.heap.size w w1 := by rw [← HW1.out]; exact (Below.refl _ w).alloc (Nat.le_refl _) _
  have HB1 : Hid (Below G w w1) := hid (by rw [← HG.out]; exact hb1)
  have HS1 : Hid (w1.heap[G]? = some (.cells Y.toArray 24 (0, 0))) := hid (by rw [← HW1.out, ← HG.out]; exact heap_alloc_new w _)
  have hG1 : G < w1.heap.size := lt_of_some HS1.out
  have C20 : Hid (Calls Tryd.prog 20 #[.slice a LN cap] w1 (PostRi B w1)) := hid (by
    have := readIdx_any a cap B w1 hz hlen (hS.below hb1)
    rw [HLN.out] at this
    exact this)
  have HBB : Hid (IsB B) := hz
  have HYL : Hid (y.length = 20 ∧ IsB y) := ⟨hy, hyb⟩
  rw [HLN.out, HY.out]
  clear hb1 hS hz hy hyb
  go_enter Tryd.func21, Tryd.ntmps21
  go_wp2_with fail
  rw [HW1.out, HG.out]
  refine C20.out.mono ?_
  rintro ev w2 ⟨hb2, hcase⟩
  have HB2 : Hid (Below G w w2) := hid (HB1.out.trans (hb2.mono (Nat.le_of_lt hG1)))
  have HS2 : Hid (w2.heap[G]? = some (.cells Y.toArray 24 (0, 0))) := hid ((hb2.block G hG1).trans HS1.out)
  clear hb2
  have D0 : Hid ((w2.alloc (.cells zr 24)).heap[w2.heap.size]? = some (.cells zr 24 (0, 0))) := heap_alloc_new w2 _
  obtain ⟨K, HK⟩ : ∃ K, Hid (w2.heap.size = K) := ⟨_, rfl⟩
  have hGK : G < K := by rw [← HK.out]; exact lt_of_some HS2.out
  have HROW : Hid (∀ R : Array Value, Below K w2 ((w2.alloc (.cells zr 24)).setRow w2.heap.size R)) := fun R => by
    rw [← HK.out]; exact below_setRow ((Below.refl _ w2).alloc (Nat.le_refl _) _) (Nat.le_refl _) _
  rcases hcase with ⟨hgood, F, rfl, hF, hfr⟩ | ⟨hbad, rfl⟩
  · have HGD : Hid (1072 ≤ B.length ∧ Idx B) := hgood
    obtain ⟨su, HSU0⟩ : ∃ l, Hid (rd20 B (B.length - 40) = l) := ⟨_, rfl⟩
    have HS20 : Hid (su.length = 20) := hid (by rw [← HSU0.out]; exact rd20_len B _ (by have := hgood.1; omega))
    obtain ⟨SU, HSU⟩ : ∃ S : List Value, Hid (row .u8 su = S) := ⟨_, rfl⟩
    rw [HN.out, HL.out] at hfr
    have HF2 : Hid (Fr w2 F l) := hfr
    have HWP : Hid (Wp l) := hid (by rw [← HL.out]; exact rdP_wp B n HBB.out (by have := hgood.1; have := HN.out; omega))
    have HSR : Hid (SrtP l) := hid (by
      have := idx_srt B HBB.out hgood.1 hgood.2
      rw [HN.out, HL.out] at this
      rw [← this]
      exact (srtI_both l).2)
    rw [HN.out, HSU0.out, HSU.out]
    clear hgood hfr hF
    have HRL : Hid (SU.length = 20) := hid (by rw [← HSU.out, row_len]; exact HS20.out)
    have I24 : Hid ((Tryd.prog.info? 24).map (·.size) = some SU.toArray.size) := hid (by rw [List.size_toArray, HRL.out]; exact Tryd.size24)
    have E24 : Hid (zr.size = SU.toArray.size) := hid (by rw [HZS.out, List.size_toArray, HRL.out])
    have O24 : Hid (SU.toArray.all (·.oneCell') = true) := hid (by rw [← HSU.out]; exact all_oneCell_toArray (row_one _ _))
    have hb3 := HROW.out SU.toArray
    obtain ⟨w3, HW3⟩ : ∃ w3, Hid ((w2.alloc (.cells zr 24)).setRow w2.heap.size SU.toArray = w3) := ⟨_, rfl⟩
    rw [HW3.out] at hb3
    have HB3 : Hid (Below G w w3) := hid (HB2.out.trans (hb3.mono (Nat.le_of_lt hGK)))
    have HF3 : Hid (Fr w3 F l) := hid (HF2.out.below (by rw [HK.out]; exact hb3))
    have RY : Hid (w3.rangeAt G 0 Y) := hid (range_row ((hb3.block G hGK).trans HS2.out))
    have hG3 : G < w3.heap.size := Nat.lt_of_lt_of_le (lt_of_some HS2.out) hb3.size
    clear hb3
    have HPP : Hid (Pp w3 (some ⟨F, 0, none⟩) n l) := hid (by
      have := fr_pp HF3.out (fun p hp => (HWP.out p hp).1)
      rw [HLL.out] at this
      exact this)
    have C36 : Hid (Calls Tryd.prog 36 #[.slice (some ⟨F, 0, none⟩) n n, .agg Y.toArray, .func (.func 37) #[] #[]] w3 (PostBs l y w3)) := hid (by
      have := search_any (some ⟨F, 0, none⟩) n l y w3 HPP.out (fun p hp => (HWP.out p hp).1) HSR.out HYL.out.1 (by rw [HLL.out]; omega)
      rw [HLL.out, HY.out] at this
      exact this)
    go_wp2_with (first
      | (refine wpList_store_row rfl 24 _ _ rfl w2.heap.size SU.toArray rfl rfl 24 zr D0.out I24.out E24.out O24.out ?_; rw [HW3.out, HK.out])
      | refine wpList_load_mid rfl 24 _ rfl G 0 rfl Y _ RY.out Tryd.underlying24 rfl hiY ?_
      | fail)
    refine C36.out.mono ?_
    rintro ev w4 ⟨hb4, i, hi, hcut, rfl⟩
    have HB4 : Hid (Below G w w4) := hid (HB3.out.trans (hb4.mono (Nat.le_of_lt hG3)))
    have HF4 : Hid (Fr w4 F l) := hid (HF3.out.below hb4)
    have HFO : Hid ((i < l.length ∧ cmpI (l.getD i p0).id y = 0) ↔ y ∈ l.map (·.id)) := hid (cut_found hcut HSR.out HWP.out HYL.out.2 hi)
    clear hb4 hcut
    by_cases hfd : i < l.length ∧ cmpI (l.getD i p0).id y = 0
    · have hin : i < n := by rw [← HLL.out]; exact hfd.1
      have hini : (i : Int) < (n : Int) := by omega
      obtain ⟨x, HX⟩ : ∃ x, Hid (l.getD i p0 = x) := ⟨_, rfl⟩
      have hxm : x ∈ l := by
        rw [← HX.out, List.getD_eq_getElem?_getD, List.getElem?_eq_getElem hfd.1]
        exact List.getElem_mem _
      have HXM : Hid (x ∈ l) := hxm
      have HXY : Hid (x.id = y) := hid (by
        have h2 := hfd.2
        rw [HX.out] at h2
        exact bytes_inj (HWP.out x hxm).2.1 HYL.out.2 ((cb_zero _ _).1 h2))
      obtain ⟨o, HO⟩ : ∃ o, Hid (x.off = o) := ⟨_, rfl⟩
      have c20 : w4.cell? ⟨F, i * 22 + 20, none⟩ = some (.int .i64 o) := by
        have hpp := fr_pp HF4.out (fun p hp => (HWP.out p hp).1)
        obtain ⟨b', off', e1, e2, e3⟩ := hpp.at_ (by omega)
        cases e1
        have := pl_off (e3 i hfd.1) (by rw [HX.out]; exact (HWP.out x hxm).1)
        rw [HX.out, HO.out] at this
        rw [Nat.zero_add] at this
        exact this
      rw [decide_eq_true hfd]
      clear hfd hxm
      go_wp2
      go_ret2
      exact ⟨by rw [HG.out]; exact HB4.out, .inl ⟨HGD.out, .inl ⟨x, by rw [HN.out, HL.out]; exact HXM.out, HXY.out, by rw [HO.out]; rfl⟩⟩⟩
    · have HNF : Hid (y ∉ l.map (·.id)) := fun h => hfd (HFO.out.2 h)
      rw [decide_eq_false hfd]
      clear hfd
      go_wp2
      go_ret2
      exact ⟨by rw [HG.out]; exact HB4.out, .inl ⟨HGD.out, .inr ⟨by rw [HN.out, HL.out]; exact HNF.out, rfl⟩⟩⟩
  · have HBAD : Hid (¬ (1072 ≤ B.length ∧ Idx B)) := hbad
    clear hbad
    have hb3 := HROW.out zr
    obtain ⟨w3, HW3⟩ : ∃ w3, Hid ((w2.alloc (.cells zr 24)).setRow w2.heap.size zr = w3) := ⟨_, rfl⟩
    rw [HW3.out] at hb3
    have HB3 : Hid (Below G w w3) := hid (HB2.out.trans (hb3.mono (Nat.le_of_lt hGK)))
    clear hb3
    rw [← HZ.out]
    go_wp2_with (first
      | (refine wpList_store_row rfl 24 _ _ rfl w2.heap.size zr rfl rfl 24 zr D0.out IZ.out rfl OZ.out ?_; rw [HW3.out, HK.out])
      | fail)
    go_ret2
    exact ⟨by rw [HG.out]; exact HB3.out, .inr ⟨HBAD.out, rfl⟩⟩
end Go.Proofs.YtdfihfmmfmoabaaDoor
