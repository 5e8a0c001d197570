/- 'and', 'setOf', 'tops'. -/
import Derived.Test.YtjgjeedablgmeaaDoorGtC
import Derived.Test.YtjgjeedablgmeaaDoorGpO
namespace Go.Proofs.YtjgjeedablgmeaaDoor
open Go.RowKit
set_option linter.unusedVariables false
set_option linter.unusedSimpArgs false
/-- What 'idorder.Sorted' gives. -/
def S51 : Prop := ∀ (g ns : Nat) (S : List Int → Prop) (w : World), SI w g ns S → ns ≤ 1000 → (∀ xs, Lst' S xs → xs.length ≤ 1000) → Calls Tryd.prog 51 #[.map (some g)] w (PostSo S w)
set_option maxRecDepth 20000 in
theorem and_any {w : World} {gs ns gt nt : Nat} {S T : List Int → Prop} (hS : SI w gs ns S) (hT : SI w gt nt T) (hn : ns ≤ 1000) : Calls Tryd.prog 34 #[.map (some gs), .map (some gt)] w (PostS (fun y => S y ∧ T y) ns w) := by
  obtain ⟨G, HG⟩ : ∃ G, Hid (w.heap.size = G) := ⟨_, rfl⟩
  have C29 : Hid (Calls Tryd.prog 29 #[.map (some gs), .map (some gt)] w (PostS (fun y => S y ∧ ¬ T y) ns w)) := lessS_any hS hT hn
  have HS : Hid (∀ W, Below G w W → SI W gs ns S) := fun W hW => hS.below (by rw [HG.out]; exact hW)
  clear hS hT
  go_enter Tryd.func34, Tryd.ntmps34
  go_wp2_with fail
  refine C29.out.mono ?_
  rintro ev w1 ⟨hb1, g1, n1, rfl, hg1, hn1, hs1⟩
  have HB1 : Hid (Below G w w1) := hid (by rw [← HG.out]; exact hb1)
  have D29 : Hid (Calls Tryd.prog 29 #[.map (some gs), .map (some g1)] w1 (PostS (fun y => S y ∧ ¬ (S y ∧ ¬ T y)) ns w1)) := hid (lessS_any (HS.out _ HB1.out) hs1 hn)
  have hG1 : G ≤ w1.heap.size := by have := hb1.size; have := HG.out; omega
  clear hb1 hs1 C29
  go_wp2_with fail
  refine D29.out.mono ?_
  rintro ev w2 ⟨hb2, g2, n2, rfl, hg2, hn2, hs2⟩
  have HB2 : Hid (Below G w w2) := hid (HB1.out.trans (hb2.mono hG1))
  have HS2 : Hid (SI w2 g2 n2 (fun y => S y ∧ T y)) := hid (hs2.congr (fun y => ⟨fun h => ⟨h.1, Classical.byContradiction (fun h2 => h.2 ⟨h.1, h2⟩)⟩, fun h => ⟨h.1, fun h2 => h2.2 h.2⟩⟩))
  clear hb2 hs2
  go_wp2
  go_ret
  exact ⟨by rw [HG.out]; exact HB2.out, g2, n2, rfl, by have := HG.out; omega, hn2, HS2.out⟩
set_option maxRecDepth 20000 in
set_option maxHeartbeats 1000000 in
theorem setOf_any {w : World} (fa : Option Addr) (fc : Nat) (fs : List (List Int)) (hF : Pa w fa fc fs) (hfi : ∀ y ∈ fs, IdW y) (hfl : fs.length ≤ 40) : Calls Tryd.prog 35 #[.slice fa fs.length fc] w (PostS (· ∈ fs) 40 w) := by
  obtain ⟨nf, HNF⟩ : ∃ n, Hid (fs.length = n) := ⟨_, rfl⟩
  obtain ⟨G, HG⟩ : ∃ G, Hid (w.heap.size = G) := ⟨_, rfl⟩
  have hnf40 : nf ≤ 40 := by rw [← HNF.out]; exact hfl
  have HFA : Hid (∀ W, Below G w W → Pa W fa fc fs) := fun W hW => hF.below (by rw [HG.out]; exact hW)
  have HFI : Hid (∀ y ∈ fs, IdW y) := hfi
  have HPF : Hid (0 < nf → ∃ b off, fa = some ⟨b, off, none⟩) := fun h0 => by
    obtain ⟨b, off, e1, _⟩ := hF.at_ (by rw [HNF.out]; exact h0)
    exact ⟨b, off, e1⟩
  have hmk := zero68 w
  have hbu := built105
  obtain ⟨w1, HW1⟩ : ∃ u, Hid (w.alloc (.map #[] 0) = u) := ⟨_, rfl⟩
  have HS1 : Hid (SI w1 G 0 (· ∈ fs.take 0)) := hid (by rw [← HW1.out, ← HG.out]; exact (si_made w).congr (fun x => by simp))
  have HB1 : Hid (Below G w w1) := hid (by rw [← HW1.out, ← HG.out]; exact (Below.refl _ w).alloc (Nat.le_refl _) _)
  obtain ⟨zi, HZI⟩ : ∃ zr : Array Value, Hid (zr = (row .u8 z20).toArray) := ⟨_, rfl⟩
  have hz42 : ∀ w : World, (zeroValue 42).run Tryd.prog w = .ok (.agg zi) w := fun w => by rw [HZI.out]; exact zero42 w
  have HZIS : Hid (zi.size = 20) := hid (by rw [HZI.out]; rfl)
  rw [HNF.out]
  clear hF hfi hfl
  go_enter Tryd.func35, Tryd.ntmps35
  go_wp2_with fail
  rw [HW1.out, HG.out]
  go_loopg [9] nf (fun gg iv wr => ∃ i : Nat, i ≤ nf ∧ gg = nf - i ∧ iv = .int .i64 i ∧ Hid (SI wr G i (· ∈ fs.take i)) ∧ Hid (Below G w wr))
  case atStart => exact ⟨0, Nat.zero_le _, rfl, rfl, HS1, HB1⟩
  case round =>
    clear HS1 HB1
    obtain ⟨i, hi, hk, rfl, HS, HB⟩ := hrel
    by_cases hlt : i < nf
    · have hlti : (i : Int) < (nf : Int) := by omega
      obtain ⟨b, off, hae⟩ := HPF.out (by omega)
      subst hae
      obtain ⟨x, HX⟩ : ∃ y, Hid (fs.getD i [] = y) := ⟨_, rfl⟩
      have HXW : Hid (IdW x) := hid (HFI.out x (by rw [← HX.out]; exact getD_mem fs i _ (by rw [HNF.out]; exact hlt)))
      obtain ⟨RI, HRI⟩ : ∃ R : List Value, Hid (row .u8 x = R) := ⟨_, rfl⟩
      have HFN : Hid (RI.length = 20) := hid (by rw [← HRI.out, row_len]; exact HXW.out.1)
      have hi42 : (Tryd.prog.info? 42).map (·.size) = some RI.length := by rw [HFN.out]; exact Tryd.size42
      have I42 : Hid ((Tryd.prog.info? 42).map (·.size) = some RI.toArray.size) := hid (by rw [List.size_toArray]; exact hi42)
      have E42 : Hid (zi.size = RI.toArray.size) := hid (by rw [HZIS.out, List.size_toArray, HFN.out])
      have O42 : Hid (RI.toArray.all (·.oneCell') = true) := hid (by rw [← HRI.out]; exact all_oneCell_toArray (row_one _ _))
      have RR : Hid (wr.rangeAt b (off + i * 20) RI) := hid (by
        obtain ⟨b', off', e1, _, e3⟩ := (HFA.out wr HB.out).at_ (by rw [HNF.out]; omega)
        cases e1
        have := e3 i (by rw [HNF.out]; exact hlt)
        rw [HX.out, HRI.out] at this
        exact this)
      have D0 : Hid ((wr.alloc (.cells zi 42)).heap[wr.heap.size]? = some (.cells zi 42 (0, 0))) := heap_alloc_new wr _
      obtain ⟨w4, HW4⟩ : ∃ u, Hid ((wr.alloc (.cells zi 42)).setRow wr.heap.size RI.toArray = u) := ⟨_, rfl⟩
      obtain ⟨H, HH⟩ : ∃ H, Hid (wr.heap.size = H) := ⟨_, rfl⟩
      obtain ⟨hb4, hx4⟩ := laid HW4.out HH.out
      have R4 : Hid (w4.rangeAt H 0 RI) := hid (range_row hx4)
      have hGw : G < wr.heap.size := HS.out.lt
      have hB4 : Below G w w4 := HB.out.trans (hb4.mono (by omega))
      obtain ⟨w6, hput, hsi6, hg6⟩ := (HS.out.below hb4).put (by omega) HXW.out
      have HPUT : Hid ((Instr.mapUpdate 68 (.map (some G)) (.agg RI.toArray) (.agg #[])).run Tryd.prog w4 = .ok () w6) := hid (by
        unfold idV at hput
        rw [HRI.out] at hput
        exact hput)
      have HS6 : Hid (SI w6 G (i + 1) (· ∈ fs.take (i + 1))) := hid (hsi6.congr (fun y => by
        rw [take_snocG [] fs i (by rw [HNF.out]; exact hlt), HX.out, List.mem_append, List.mem_singleton]
        exact Or.comm))
      have HB6 : Hid (Below G w w6) := hid (hB4.grown hg6 (by have := hb4.size; omega) (fun k hk => by cases hk; exact Nat.le_refl _))
      clear hb4 hx4 hB4 hput hsi6 hg6
      go_wp2_with (first
        | refine wpList_load_mid rfl 42 _ rfl b (off + i * 20) rfl RI _ RR.out Tryd.underlying42 rfl hi42 ?_
        | (refine wpList_store_row rfl 42 _ _ rfl wr.heap.size RI.toArray rfl rfl 42 zi D0.out I42.out E42.out O42.out ?_; rw [HW4.out, HH.out])
        | refine wpList_load_mid rfl 42 _ rfl H 0 rfl RI _ R4.out Tryd.underlying42 rfl hi42 ?_
        | refine wpList_skip rfl (exec_update rfl rfl rfl rfl HPUT.out) ?_
        | fail)
      go_roundg (nf - (i + 1))
      case measure => omega
      case rel => exact ⟨i + 1, by omega, rfl, by go_num, HS6, HB6⟩
    · have hlti : ¬ (i : Int) < (nf : Int) := by omega
      have HSZ : Hid (SI wr G i (· ∈ fs)) := hid (by
        have := HS.out
        rw [List.take_of_length_le (by rw [HNF.out]; omega)] at this
        exact this)
      go_wp2
      go_ret
      exact ⟨by rw [HG.out]; exact HB.out, G, i, rfl, by rw [HG.out]; exact Nat.le_refl _, by omega, HSZ.out⟩
/-- Those of S that no parent of them reaches. -/
def Tp (l : List Nd) (S : List Int → Prop) (y : List Int) : Prop := S y ∧ ¬ Rch l (fun p => ∃ x ∈ l, S x.id ∧ p ∈ x.ps) y
set_option maxRecDepth 20000 in
set_option maxHeartbeats 2000000 in
theorem tops_any (H51 : S51) {w : World} {hb m : Nat} {a : Option Addr} {cap : Nat} {l : List Nd} (h : Hi w hb m a cap l) (hok : OkG l) {g ng : Nat} {S : List Int → Prop} (hS : SI w g ng S) (hng : ng ≤ 1000) (hSl : ∀ y, S y → y ∈ ids l) : Calls Tryd.prog 33 #[.pointer (some ⟨hb, 0, none⟩), .map (some g)] w (PostSo (Tp l S) w) := by
  obtain ⟨G, HG⟩ : ∃ G, Hid (w.heap.size = G) := ⟨_, rfl⟩
  have HHI : Hid (∀ W, Below G w W → Hi W hb m a cap l) := fun W hW => h.below (by rw [HG.out]; exact hW)
  have HSB : Hid (∀ W, Below G w W → SI W g ng S) := fun W hW => hS.below (by rw [HG.out]; exact hW)
  have HSL : Hid (∀ y, S y → y ∈ ids l) := hSl
  have HL40 : Hid (l.length ≤ 40) := h.few
  have HPS : Hid (∀ x ∈ l, x.ps.length ≤ 40) := h.fps
  have HOK : Hid (OkG l) := hok
  obtain ⟨zr, HZ⟩ : ∃ zr : Array Value, Hid (zr = (ndV nd0).toArray) := ⟨_, rfl⟩
  have hz53 : ∀ w : World, (zeroValue 53).run Tryd.prog w = .ok (.agg zr) w := fun w => by rw [HZ.out]; exact zero53 w
  have HZS : Hid (zr.size = 22) := hid (by rw [HZ.out]; rfl)
  have C45 : Hid (Calls Tryd.prog 45 #[.pointer (some ⟨hb, 0, none⟩), .map (some g)] w (PostAm l S w)) := among_any h hS
  have HH51 : Hid S51 := H51
  clear h hS hSl hok H51
  go_enter Tryd.func33, Tryd.ntmps33
  go_wp2_with fail
  refine C45.out.mono ?_
  rintro ev w1 ⟨fS, vn, hfS, rfl, hbx⟩
  obtain ⟨L, HLL⟩ : ∃ L, Hid (l.filter fS = L) := ⟨_, rfl⟩
  rw [HLL.out] at hbx
  have HFS : Hid (∀ x, fS x = true ↔ S x.id) := hfS
  have HLS : Hid (∀ x ∈ L, x ∈ l) := fun x hx => by rw [← HLL.out] at hx; exact (List.mem_filter.1 hx).1
  have HL4 : Hid (L.length ≤ 40) := hid (by rw [← HLL.out]; exact Nat.le_trans (List.length_filter_le _ _) HL40.out)
  rw [HG.out] at hbx
  have HB1 : Hid (Below G w w1) := hbx.below
  obtain ⟨an, cn, hvn, hpn, _⟩ := hbx.px (d := nd0) (fun x hx => ndV_len x ((HHI.out _ HB1.out).wf x (HLS.out x hx)).id.1)
  subst hvn
  obtain ⟨n, HN⟩ : ∃ n, Hid (L.length = n) := ⟨_, rfl⟩
  have hn40 : n ≤ 40 := by rw [← HN.out]; exact HL4.out
  obtain ⟨G1, HG1⟩ : ∃ K, Hid (w1.heap.size = K) := ⟨_, rfl⟩
  have hGG1 : G ≤ G1 := by rw [← HG1.out]; have := hbx.le; omega
  have HPN : Hid (∀ W, Below G1 w1 W → Pn W an cn L) := fun W hW => hpn.below (by rw [HG1.out]; exact hW)
  have HPL : Hid (0 < n → ∃ b off, an = some ⟨b, off, none⟩) := fun h0 => by
    obtain ⟨b, off, e1, _⟩ := hpn.at_ (by rw [HN.out]; exact h0)
    exact ⟨b, off, e1⟩
  have HV0 : Hid (Bi 42 w1 w1 G1 (.slice none 0 0) ((L.take 0).flatMap (·.ps))) := hid (bx_nil 42 w1 _ (by rw [HG1.out]; exact Nat.le_refl _))
  rw [HN.out]
  clear hbx hpn hfS
  go_wp2_with fail
  go_loopg [5, 12] n (fun gg uv iv wr => ∃ (i : Nat) (v : Value), v = uv ∧ i ≤ n ∧ gg = n - i ∧ iv = .int .i64 i ∧ Hid (Bi 42 w1 wr G1 v ((L.take i).flatMap (·.ps))) ∧ Hid (((L.take i).flatMap (·.ps)).length ≤ 40 * i))
  case atStart => exact ⟨0, _, rfl, Nat.zero_le _, rfl, rfl, HV0, hid (by simp)⟩
  case round =>
    clear HV0
    obtain ⟨i, v, hv, hi, hk, rfl, HV, HLE⟩ := hrel
    subst hv
    by_cases hlt : i < n
    · have hlti : (i : Int) < (n : Int) := by omega
      obtain ⟨b, off, hae⟩ := HPL.out (by omega)
      subst hae
      obtain ⟨x, HX⟩ : ∃ x, Hid (L.getD i nd0 = x) := ⟨_, rfl⟩
      have hxm : x ∈ L := by rw [← HX.out]; exact getD_mem L i _ (by rw [HN.out]; exact hlt)
      have hxl := HLS.out x hxm
      have hBw : ∀ W, Below G1 w1 W → Below G w W := fun W hW => HB1.out.trans (hW.mono hGG1)
      have hnw := (HHI.out _ (hBw _ HV.out.below)).wf x hxl
      have HXW : Hid (IdW x.id) := hnw.id
      have HPI : Hid (∀ p ∈ x.ps, IdW p) := hnw.ps
      obtain ⟨k, HK⟩ : ∃ k, Hid (x.ps.length = k) := ⟨_, rfl⟩
      obtain ⟨pa, HPa⟩ : ∃ k, Hid (x.pa = k) := ⟨_, rfl⟩
      obtain ⟨pc, HPc⟩ : ∃ k, Hid (x.pc = k) := ⟨_, rfl⟩
      have hk40 : k ≤ 40 := by rw [← HK.out]; exact HPS.out x hxl
      obtain ⟨R, HR⟩ : ∃ R : List Value, Hid (ndV x = R) := ⟨_, rfl⟩
      have HRL : Hid (R.length = 22) := hid (by rw [← HR.out]; exact ndV_len x HXW.out.1)
      have hiR : (Tryd.prog.info? 53).map (·.size) = some R.length := by rw [HRL.out]; exact Tryd.size53
      have RR : Hid (wr.rangeAt b (off + i * 22) R) := hid (by
        obtain ⟨b', off', e1, _, e3⟩ := (HPN.out wr HV.out.below).at_ (by rw [HN.out]; omega)
        cases e1
        have := e3 i (by rw [HN.out]; exact hlt)
        rw [HX.out, HR.out] at this
        exact this)
      have I53 : Hid ((Tryd.prog.info? 53).map (·.size) = some R.toArray.size) := hid (by rw [List.size_toArray]; exact hiR)
      have E53 : Hid (zr.size = R.toArray.size) := hid (by rw [HZS.out, List.size_toArray, HRL.out])
      have O53 : Hid (R.toArray.all (·.oneCell') = true) := hid (by rw [← HR.out]; exact all_oneCell_toArray (ndV_one x))
      have D0 : Hid ((wr.alloc (.cells zr 53)).heap[wr.heap.size]? = some (.cells zr 53 (0, 0))) := heap_alloc_new wr _
      obtain ⟨w5, HW5⟩ : ∃ w3, Hid ((wr.alloc (.cells zr 53)).setRow wr.heap.size R.toArray = w3) := ⟨_, rfl⟩
      obtain ⟨H, HH⟩ : ∃ H, Hid (wr.heap.size = H) := ⟨_, rfl⟩
      obtain ⟨hb5, hx5⟩ := laid HW5.out HH.out
      have HV5 : Hid (Bi 42 w1 w5 G1 v ((L.take i).flatMap (·.ps))) := hid (HV.out.carry hb5)
      have hps5 : w5.cell? ⟨H, 20, none⟩ = some (.slice pa k pc) := by
        have := nd_ps (x := x) (b := H) (o := 0) (W := w5) (by rw [HR.out]; exact range_row hx5) HXW.out.1
        rw [HPa.out, HK.out, HPc.out, Nat.zero_add] at this
        exact this
      have HPA5 : Hid (Pa w5 pa pc x.ps) := hid (by
        have := ((HHI.out _ (hBw _ HV5.out.below)).wf x hxl).mem
        rw [HPa.out, HPc.out] at this
        exact this)
      have HONE1 : Hid (∀ z ∈ x.ps, (row .u8 z).length = 20) := fun z hz => by rw [row_len]; exact (HPI.out z hz).1
      have HSUM : Hid (((L.take i).flatMap (·.ps)).length + x.ps.length ≤ 30000) := hid (by have := HLE.out; rw [HK.out]; omega)
      have HTK : Hid ((L.take (i + 1)).flatMap (·.ps) = (L.take i).flatMap (·.ps) ++ x.ps) := hid (by rw [take_snocG nd0 L i (by rw [HN.out]; exact hlt), HX.out, List.flatMap_append]; simp)
      have HLE2 : Hid (((L.take (i + 1)).flatMap (·.ps)).length ≤ 40 * (i + 1)) := hid (by rw [HTK.out, List.length_append, HK.out]; have := HLE.out; omega)
      clear hb5 hx5 hxm hnw hxl hBw
      go_wp2_with (first
        | refine wpList_load_mid rfl 53 _ rfl b (off + i * 22) rfl R _ RR.out Tryd.underlying53 rfl hiR ?_
        | (refine wpList_store_row rfl 53 _ _ rfl wr.heap.size R.toArray rfl rfl 53 zr D0.out I53.out E53.out O53.out ?_; rw [HW5.out, HH.out])
        | (refine wpList_bx_sl (d := []) rfl _ _ 32 42 Tryd.underlying32 Tryd.info42 rfl (by decide) (by decide) (fun z => row_one _ z) rfl G1 v _ rfl HV5.out pa pc x.ps (by rw [HK.out]; rfl) HPA5.out HONE1.out HSUM.out ?_; intro v8 w8 hb8 hg8)
        | fail)
      have HV8 : Hid (Bi 42 w1 w8 G1 v8 ((L.take (i + 1)).flatMap (·.ps))) := hid (by rw [HTK.out]; exact hb8)
      clear hb8 hg8
      go_roundg (n - (i + 1))
      case measure => omega
      case rel => exact ⟨i + 1, v8, rfl, by omega, rfl, by go_num, HV8, HLE2⟩
    · have hlti : ¬ (i : Int) < (n : Int) := by omega
      have hin : i = n := by omega
      subst hin
      obtain ⟨ps, HPQ⟩ : ∃ ps, Hid (L.flatMap (·.ps) = ps) := ⟨_, rfl⟩
      have hTA : (L.take i).flatMap (·.ps) = ps := by rw [List.take_of_length_le (by rw [HN.out]; exact Nat.le_refl _)]; exact HPQ.out
      have hVZ := HV.out
      have hLE := HLE.out
      rw [hTA] at hVZ hLE
      have hB2 : Below G w wr := HB1.out.trans (hVZ.below.mono hGG1)
      have HB2 : Hid (Below G w wr) := hB2
      have hidw : ∀ p ∈ ps, IdW p := fun p hp => by
        rw [← HPQ.out] at hp
        obtain ⟨x, hx, hxp⟩ := List.mem_flatMap.1 hp
        exact ((HHI.out _ hB2).wf x (HLS.out x hx)).ps p hxp
      obtain ⟨va, vc, hve, hvp, _, _⟩ := hVZ.px (d := []) (fun z hz => by rw [row_len]; exact (hidw z hz).1)
      subst hve
      obtain ⟨t, HT⟩ : ∃ t, Hid (ps.length = t) := ⟨_, rfl⟩
      have hin2 : ∀ y, Rch l (· ∈ ps) y → y ∈ ids l := rch_in HOK.out.par (fun p hp => by
        rw [← HPQ.out] at hp
        obtain ⟨x, hx, hxp⟩ := List.mem_flatMap.1 hp
        exact HOK.out.par x (HLS.out x hx) p hxp)
      have C28 : Hid (Calls Tryd.prog 28 #[.pointer (some ⟨hb, 0, none⟩), .slice va t vc] wr (PostS (Rch l (· ∈ ps)) 40 wr)) := hid (by
        have := reached_any (HHI.out _ hB2) va vc ps hidw (by omega) hvp hin2
        rw [HT.out] at this
        exact this)
      have HTP : Hid (∀ y, (S y ∧ ¬ Rch l (· ∈ ps) y) ↔ Tp l S y) := fun y => by
        have e : ∀ p, p ∈ ps ↔ ∃ x ∈ l, S x.id ∧ p ∈ x.ps := fun p => by
          rw [← HPQ.out, List.mem_flatMap, ← HLL.out]
          constructor
          · rintro ⟨x, hx, hp⟩
            obtain ⟨h1, h2⟩ := List.mem_filter.1 hx
            exact ⟨x, h1, (HFS.out x).1 h2, hp⟩
          · rintro ⟨x, h1, h2, hp⟩
            exact ⟨x, List.mem_filter.2 ⟨h1, (HFS.out x).2 h2⟩, hp⟩
        unfold Tp
        have e2 : Rch l (· ∈ ps) y ↔ Rch l (fun p => ∃ x ∈ l, S x.id ∧ p ∈ x.ps) y := ⟨fun h => h.trans (fun x hx => Rch.of ((e x).1 hx)), fun h => h.trans (fun x hx => Rch.of ((e x).2 hx))⟩
        rw [e2]
      have hGw : G ≤ wr.heap.size := by have := hB2.size; have := HG.out; omega
      rw [HT.out]
      clear hVZ hLE hB2 hidw hvp hin2 hTA
      go_wp2_with fail
      refine C28.out.mono ?_
      rintro ev w4 ⟨hb4, g4, n4, rfl, hg4, hn4, hs4⟩
      have HB4 : Hid (Below G w w4) := hid (HB2.out.trans (hb4.mono hGw))
      have hG4 : G ≤ w4.heap.size := Nat.le_trans hGw hb4.size
      have C29 : Hid (Calls Tryd.prog 29 #[.map (some g), .map (some g4)] w4 (PostS (fun y => S y ∧ ¬ Rch l (· ∈ ps) y) ng w4)) := hid (lessS_any (HSB.out _ HB4.out) hs4 hng)
      clear hb4 hs4 C28
      go_wp2_with fail
      refine C29.out.mono ?_
      rintro ev w5 ⟨hb5, g5, n5, rfl, hg5, hn5, hs5⟩
      have HB5 : Hid (Below G w w5) := hid (HB4.out.trans (hb5.mono hG4))
      have hG5 : G ≤ w5.heap.size := Nat.le_trans hG4 hb5.size
      have C51 : Hid (Calls Tryd.prog 51 #[.map (some g5)] w5 (PostSo (Tp l S) w5)) := hid (HH51.out g5 n5 (Tp l S) w5 (hs5.congr HTP.out) (by omega) (fun xs hxs => by
        have h1 := nodup_sub xs (ids l) hxs.one (fun y hy => HSL.out y ((hxs.all y (hxs.idw y hy)).1 hy).1)
        have h2 : (ids l).length = l.length := by unfold ids; rw [List.length_map]
        have := HL40.out
        omega))
      clear hb5 hs5 C29
      go_wp2_with fail
      refine C51.out.mono ?_
      rintro ev w6 ⟨xa, xc, xs, rfl, q1, q2, q3, q4⟩
      have H1 : Hid (Lst' (Tp l S) xs) := q1
      have H2 : Hid (xs.Pairwise (fun x y => ¬ Lib.bytesOf y < Lib.bytesOf x)) := q2
      have H3 : Hid (Pa w6 xa xc xs) := q3
      have H4 : Hid (Below G w w6) := hid (HB5.out.trans (q4.mono hG5))
      clear q1 q2 q3 q4
      go_wp2
      go_ret
      exact ⟨xa, xc, xs, rfl, H1.out, H2.out, H3.out, by rw [HG.out]; exact H4.out⟩
end Go.Proofs.YtjgjeedablgmeaaDoor
