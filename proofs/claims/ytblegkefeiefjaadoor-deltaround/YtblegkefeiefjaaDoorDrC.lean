/- The law 'DeltaRound': its walk, over short inputs. -/
import Derived.Test.YtblegkefeiefjaaDoorDrA
namespace Go.Proofs.YtblegkefeiefjaaDoor
open Go.RowKit Plain
set_option linter.unusedVariables false
set_option linter.unusedSimpArgs false
set_option maxRecDepth 20000 in
set_option maxHeartbeats 4000000 in
theorem walkR_short (a a' : Option Addr) (cap cap' : Nat) (xs zs : List Int) (w : World) (hl : xs.length ≤ 100000) (hl' : zs.length ≤ 100000) (hx : IsB xs) (hz : IsB zs) (hS : Sl w a cap xs) (hS' : Sl w a' cap' zs) :
    Calls Tryd.prog 4 #[.slice a xs.length cap, .slice a' zs.length cap'] w fun e w' => e = .returned (.bool true) ∧ Below w.heap.size w w' := by
  have HX : Hid (Sl w a cap xs) := hS
  have HZ : Hid (Sl w a' cap' zs) := hS'
  have HCX : Hid (∀ w', Below w.heap.size w w' → 0 < xs.length → ∃ b off, a = some ⟨b, off, none⟩ ∧ b < w.heap.size ∧ At w' b off xs) := fun w' hb h0 => by
    obtain ⟨b, off, e1, e2, e3⟩ := HX.out.at_ h0
    exact ⟨b, off, e1, e2, fun i hi => (hb.cell (p := ⟨b, off + i, none⟩) e2).trans (e3 i hi)⟩
  have HCZ : Hid (∀ w', Below w.heap.size w w' → 0 < zs.length → ∃ b off, a' = some ⟨b, off, none⟩ ∧ b < w.heap.size ∧ At w' b off zs) := fun w' hb h0 => by
    obtain ⟨b, off, e1, e2, e3⟩ := HZ.out.at_ h0
    exact ⟨b, off, e1, e2, fun i hi => (hb.cell (p := ⟨b, off + i, none⟩) e2).trans (e3 i hi)⟩
  obtain ⟨X, HXL⟩ : ∃ X, Hid (X = xs.length) := ⟨_, rfl⟩
  obtain ⟨Z, HZL⟩ : ∃ Z, Hid (Z = zs.length) := ⟨_, rfl⟩
  have hXi : ¬ (100000 : Int) < X := by have := HXL.out; omega
  have hZi : ¬ (100000 : Int) < Z := by have := HZL.out; omega
  have hZ1 : Z ≤ 100000 := by omega
  have HR6 : Hid _ := fun (w' : World) (hb : Below w.heap.size w w') => roomy_any a cap xs w' (by omega) (fun h0 => by obtain ⟨b, off, e1, e2, e3⟩ := HCX.out w' hb h0; exact ⟨b, off, e1, Nat.lt_of_lt_of_le e2 hb.size, e3⟩)
  have HR6' : Hid _ := fun (w' : World) (hb : Below w.heap.size w w') => roomy_any a' cap' zs w' (by omega) (fun h0 => by obtain ⟨b, off, e1, e2, e3⟩ := HCZ.out w' hb h0; exact ⟨b, off, e1, Nat.lt_of_lt_of_le e2 hb.size, e3⟩)
  have HMK : Hid _ := fun (w' : World) (g g' : Nat) (h : Room w' g xs) (h' : Room w' g' zs) => make_any (some ⟨g, 0, none⟩) (some ⟨g', 0, none⟩) (xs.length + 2) (zs.length + 2) xs zs w' hx hz hl hl' h.sl h'.sl (fun p hp => by cases hp; exact h.lt) (fun p hp => by cases hp; exact h'.lt)
  have HST : Hid _ := fun (w' : World) (hb : Below w.heap.size w w') (g : Nat) (hg : w.heap.size ≤ g) (h : Room w' g xs) => still_keep a cap g xs w' (by omega) hx h (fun h0 => by obtain ⟨b, off, e1, e2, e3⟩ := HCX.out w' hb h0; exact ⟨b, off, e1, by omega, e3⟩)
  have HST' : Hid _ := fun (w' : World) (hb : Below w.heap.size w w') (g : Nat) (hg : w.heap.size ≤ g) (h : Room w' g zs) => still_keep a' cap' g zs w' (by omega) hz h (fun h0 => by obtain ⟨b, off, e1, e2, e3⟩ := HCZ.out w' hb h0; exact ⟨b, off, e1, by omega, e3⟩)
  simp only [← HXL.out, ← HZL.out] at HR6 HR6' HMK HST HST'
  rw [← HXL.out, ← HZL.out]
  clear hS hS'
  go_enter Tryd.func4, Tryd.ntmps4
  go_wp2_with fail
  refine (HR6.out w (Below.refl _ _)).mono ?_
  rintro ev w1 ⟨rfl, hb1, hr1⟩
  have HB1 : Hid _ := hb1
  have HR1 : Hid _ := hr1
  clear hb1 hr1
  obtain ⟨g, HGG⟩ : ∃ g, Hid (g = w.heap.size) := ⟨_, rfl⟩
  rw [← HGG.out] at HR1 ⊢
  go_wp2_with fail
  refine (HR6'.out w1 HB1.out).mono ?_
  rintro ev w2 ⟨rfl, hb2, hr2⟩
  have HB2 : Hid _ := hb2
  have HR2 : Hid _ := hr2
  clear hb2 hr2
  obtain ⟨g', HGG'⟩ : ∃ g', Hid (g' = w1.heap.size) := ⟨_, rfl⟩
  rw [← HGG'.out] at HR2 ⊢
  have HR1' : Hid (Room w2 g xs) := HR1.out.below HB2.out
  have HGL : Hid (g < g' ∧ g' < w2.heap.size) := ⟨by rw [HGG'.out]; exact HR1.out.lt, HR2.out.lt⟩
  have HB02 : Hid (Below w.heap.size w w2) := HB1.out.trans (HB2.out.mono HB1.out.size)
  go_wp2_with fail
  refine (HMK.out w2 g g' HR1'.out HR2.out).mono ?_
  rintro ev w3 ⟨pre, bg, v3, rfl, hcu, how3, hb3⟩
  obtain ⟨D, HD⟩ : ∃ D, Hid (D = mk xs zs pre bg) := ⟨_, rfl⟩
  have HDA : Hid (app xs D = some zs) := by show _ = _; rw [HD.out]; exact mk_app hcu hz hl hl'
  have HDS : Hid (∃ l, szs D = some (xs.length, zs.length, l)) := ⟨_, by rw [HD.out]; exact mk_szs xs zs pre bg hl hl'⟩
  have HDZ : Hid (IsB D) := by show IsB D; rw [HD.out]; exact mk_isB hcu hz hl hl'
  have hDL : D.length ≤ zs.length + zs.length / 100 + 20 := by rw [HD.out]; exact mk_len hcu hl hl'
  rw [← HD.out] at how3
  obtain ⟨M, HM⟩ : ∃ M, Hid (M = D.length) := ⟨_, rfl⟩
  have hM : M ≤ Z + Z / 100 + 20 := by rw [HM.out, HZL.out]; exact hDL
  have hM4 : M ≤ 400000 := by omega
  have hMi : (M : Int) ≤ (Z : Int) + (Z : Int) / 100 + 20 := by omega
  obtain ⟨ad, cd, rfl⟩ := slice_of how3
  have HD3 : Hid (Dg w3 w2.heap.size ad cd D) := dg_of how3
  have HB3 : Hid (Below w2.heap.size w2 w3) := hb3
  clear how3 hb3 hcu hDL
  have HB03 : Hid (Below w.heap.size w w3) := HB02.out.trans (HB3.out.mono HB02.out.size)
  have HAP : Hid _ := fun (w' : World) (hb : Below w.heap.size w w') (hd : Dg w' w2.heap.size ad cd D) => apply_any a ad cap cd xs D w' HDZ.out (by omega) (by rw [← HM.out]; exact hM4) (HX.out.below' hb) hd.sl
  have HRA : Hid _ := fun (w' : World) (hb : Below w.heap.size w w') (hd : Dg w' w2.heap.size ad cd D) => refApply_any a ad cap cd xs D w' HDZ.out (by omega) (by rw [← HM.out]; exact hM4) (HX.out.below' hb) hd.sl
  have HSI : Hid _ := fun (w' : World) (hd : Dg w' w2.heap.size ad cd D) => sizes_any ad cd D w' HDZ.out (by rw [← HM.out]; exact hM4) hd.sl
  rw [HDA.out] at HAP HRA
  obtain ⟨ls, els⟩ := HDS.out
  rw [els] at HSI
  clear els HDS
  have hlz4 : zs.length ≤ 400000 := by omega
  have HSM : Hid (∀ (w' : World) (u : Option Addr) (cu B : Nat), Below w.heap.size w w' → Got w' B u zs → Calls Tryd.prog 13 #[.slice u zs.length cu, .slice a' zs.length cap'] w' fun e w'' => e = .returned (.bool true) ∧ ∃ n, w'' = w'.drewN n) := fun w' u cu B hb hg =>
    same_any u a' cu cap' zs w' hlz4 (fun h0 => by obtain ⟨g1, e1, _, _, e4⟩ := hg.at_ h0; exact ⟨g1, 0, e1, e4⟩) (fun h0 => by obtain ⟨b, off, e1, e2, e3⟩ := HCZ.out w' hb h0; exact ⟨b, off, e1, e3⟩)
  simp only [← HXL.out, ← HZL.out, ← HM.out] at HAP HRA HSI HSM ⊢
  go_wp2_with fail
  refine (HST.out w3 HB03.out g (by rw [HGG.out]; exact Nat.le_refl _) (HR1'.out.below HB3.out)).mono ?_
  rintro ev w5 ⟨rfl, hg5⟩
  have HG5 : Hid _ := hg5
  clear hg5
  have HB05 : Hid (Below w.heap.size w w5) := HB03.out.grown HG5.out HB03.out.size (fun k hk => by have := HGG.out; simp at hk; omega)
  have HR5' : Hid (Room w5 g' zs) := (HR2.out.below HB3.out).grown HG5.out (by have := HGL.out; omega)
  have HD5 : Hid (Dg w5 w2.heap.size ad cd D) := HD3.out.frame (fun k hk1 hk2 => HG5.out.block k hk2 (fun e => by have := HGL.out; simp at e; omega)) HG5.out.size
  go_wp2_with fail
  refine (HST'.out w5 HB05.out g' (by have := HGG.out; have := HGL.out; omega) HR5'.out).mono ?_
  rintro ev w6 ⟨rfl, hg6⟩
  have HG6 : Hid _ := hg6
  clear hg6
  have HB06 : Hid (Below w.heap.size w w6) := HB05.out.grown HG6.out HB05.out.size (fun k hk => by have := HGG.out; have := HGL.out; simp at hk; omega)
  have HD6 : Hid (Dg w6 w2.heap.size ad cd D) := HD5.out.frame (fun k hk1 hk2 => HG6.out.block k hk2 (fun e => by have := HGL.out; simp at e; omega)) HG6.out.size
  go_wp2_with fail
  refine (HAP.out w6 HB06.out HD6.out).mono ?_
  rintro ev w7 ⟨hb7, v7, rfl, how7⟩
  have HB7 : Hid (Below w6.heap.size w6 w7) := hb7
  clear hb7
  have HB07 : Hid (Below w.heap.size w w7) := HB06.out.trans (HB7.out.mono HB06.out.size)
  have HD7 : Hid (Dg w7 w2.heap.size ad cd D) := HD6.out.frame (fun k _ hk => HB7.out.block k hk) HB7.out.size
  obtain ⟨av, cv, rfl⟩ := slice_of how7
  have HO7 : Hid (Got w7 w6.heap.size av zs) := got_of how7
  rw [← HZL.out]
  clear how7
  go_wp2_with fail
  refine (HSM.out w7 av cv _ HB07.out HO7.out).mono ?_
  rintro ev w8 ⟨rfl, q8, rfl⟩
  have HB8 : Hid (Below w7.heap.size w7 (w7.drewN q8)) := below_drewN (Below.refl _ _) _
  obtain ⟨w8, HW8⟩ : ∃ w8, Hid (w7.drewN q8 = w8) := ⟨_, rfl⟩
  rw [HW8.out] at HB8 ⊢
  have HB08 : Hid (Below w.heap.size w w8) := HB07.out.trans (HB8.out.mono HB07.out.size)
  have HD8 : Hid (Dg w8 w2.heap.size ad cd D) := HD7.out.frame (fun k _ hk => HB8.out.block k hk) HB8.out.size
  go_wp2_with fail
  refine (HSI.out w8 HD8.out).mono ?_
  rintro ev w9 ⟨⟨q9, rfl⟩, rfl⟩
  have HB9 : Hid (Below w8.heap.size w8 (w8.drewN q9)) := below_drewN (Below.refl _ _) _
  obtain ⟨w9, HW9⟩ : ∃ w9, Hid (w8.drewN q9 = w9) := ⟨_, rfl⟩
  rw [HW9.out] at HB9 ⊢
  have HB09 : Hid (Below w.heap.size w w9) := HB08.out.trans (HB9.out.mono HB08.out.size)
  have HD9 : Hid (Dg w9 w2.heap.size ad cd D) := HD8.out.frame (fun k _ hk => HB9.out.block k hk) HB9.out.size
  go_wp2_with fail
  refine (HRA.out w9 HB09.out HD9.out).mono ?_
  rintro ev w10 ⟨hb10, ar, cr, rfl, how10⟩
  have HB10 : Hid (Below w9.heap.size w9 w10) := hb10
  clear hb10
  have HB010 : Hid (Below w.heap.size w w10) := HB09.out.trans (HB10.out.mono HB09.out.size)
  have HQ10 : Hid (Got w10 w9.heap.size ar zs) := got_of how10
  rw [← HZL.out]
  clear how10
  go_wp2_with fail
  refine (HSM.out w10 ar cr _ HB010.out HQ10.out).mono ?_
  rintro ev w11 ⟨rfl, q11, rfl⟩
  have HB011 : Hid (Below w.heap.size w (w10.drewN q11)) := ⟨HB010.out.os, HB010.out.tape, HB010.out.output, HB010.out.size, HB010.out.block⟩
  obtain ⟨w11, HW11⟩ : ∃ w11, Hid (w10.drewN q11 = w11) := ⟨_, rfl⟩
  rw [HW11.out] at HB011 ⊢
  go_wp2_with fail
  refine (tell_nil w11).mono ?_
  rintro ev w12 ⟨rfl, hb12⟩
  have HB012 : Hid (Below w.heap.size w w12) := HB011.out.trans (hb12.mono HB011.out.size)
  clear hb12
  go_wp2_with fail
  refine (tell_nil w12).mono ?_
  rintro ev w13 ⟨rfl, hb13⟩
  have HB013 : Hid (Below w.heap.size w w13) := HB012.out.trans (hb13.mono HB012.out.size)
  clear hb13
  go_wp2
  go_ret
  exact ⟨rfl, HB013.out⟩
end Go.Proofs.YtblegkefeiefjaaDoor
