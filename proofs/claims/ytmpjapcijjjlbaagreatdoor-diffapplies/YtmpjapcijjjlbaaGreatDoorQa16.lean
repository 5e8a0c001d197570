import Derived.Test.YtmpjapcijjjlbaaGreatDoorQa15
import Derived.Test.YtmpjapcijjjlbaaGreatDoorQa10
import Derived.Test.YtmpjapcijjjlbaaGreatDoorQa01
namespace Go.Proofs.YtmpjapcijjjlbaaGreatDoor
open Go.RowKit
set_option linter.unusedVariables false
set_option linter.unusedSimpArgs false
def PostDA (s p : Str) (w : World) (G : Nat) (e : Ending) (w' : World) : Prop :=
  Below G w w' ∧ ((hkX 0 0 p = none ∧ e = .returned (.tuple #[.slice none 0 0, .int .i64 90])) ∨ ∃ l : List Gz, hkX 0 0 p = some ((gz l).map prj) ∧
    ((∃ M, chP (lns s) (gz l) = some M ∧ arL M ∧ M.flatten.length ≤ 1000000000000 ∧ ∃ y yc, e = .returned (.tuple #[.slice y M.flatten.length yc, .int .i64 0]) ∧ PB w' y yc M.flatten)
    ∨ ((∀ M, chP (lns s) (gz l) = some M → ¬ arL M) ∧ e = .returned (.tuple #[.slice none 0 0, .int .i64 91]))))
def Nem (L : List Str) : Prop := ∀ x ∈ L, 0 < x.length
theorem Nem.snoc {L : List Str} {x : Str} (h : Nem L) (hx : 0 < x.length) : Nem (L ++ [x]) := fun y hy => by
  rcases List.mem_append.1 hy with hy | hy
  · exact h y hy
  · rw [List.mem_singleton.1 hy]; exact hx
theorem PZ.two {w : World} {b off cap : Nat} {l : List Gz} (h : PZ w (some ⟨b, off, none⟩) cap l) (i : Nat) (hi : i < l.length) : w.cell? ⟨b, off + i * 5, none⟩ = some (.int .i64 (l.getD i z0).2.2.1) ∧ w.cell? ⟨b, off + i * 5 + 4, none⟩ = some (slE (l.getD i z0).2.2) := by
  obtain ⟨b', off', e1, _, e3⟩ := h.at_ (by omega)
  cases e1
  exact ⟨e3 i hi 0 _ rfl, e3 i hi 4 _ rfl⟩
theorem PE.row {w : World} {b off cap : Nat} {l : List Ed} (h : PE w (some ⟨b, off, none⟩) cap l) (i : Nat) (hi : i < l.length) : w.rangeAt b (off + i * 2) (encE (l.getD i (0, []))) := by
  obtain ⟨b', off', e1, _, e3⟩ := h.at_ (by omega)
  cases e1
  exact e3 i hi
theorem gz_at (l : List Gz) (i : Nat) : (gz l).getD i g0 = (l.getD i z0).2.2 := by
  unfold gz
  rw [List.getD_eq_getElem?_getD, List.getD_eq_getElem?_getD, List.getElem?_map]
  cases l[i]? <;> rfl
theorem gz_len (l : List Gz) : (gz l).length = l.length := by simp [gz]
theorem size61 : (Tryz.prog.info? 61).map (·.size) = some 2 := by kernel_rfl
theorem own_peZ {w : World} {B : Nat} {y : Gz} (h : OwZ w B y) (hB : B ≤ w.heap.size) : PE w y.2.2.2.2.1 y.2.2.2.2.2.1 y.2.2.2.2.2.2 := by
  have hb : BE 61 w w B (slE y.2.2) y.2.2.2.2.2.2 := ⟨Below.refl _ _, h, hB⟩
  obtain ⟨a, c, e, hp, _⟩ := hb.px (d := (0, [])) (fun x _ => encE_len x)
  unfold slE at e
  cases e
  exact hp
theorem lines_short {zs : List Pz} {p : Str} (h : p = zs.flatMap hkP) : (∀ z ∈ zs, ∀ x ∈ z.2.2, x.2.length ≤ p.length) ∧ (zs.map fun z => z.2.2.length).sum ≤ p.length := by
  subst h
  induction zs with
  | nil => exact ⟨(fun z hz => by cases hz), (by simp)⟩
  | cons z zs ih =>
    rw [List.flatMap_cons, List.length_append]
    have h1 : (z.2.2.flatMap lineT).length ≤ (hkP z).length := by unfold hkP; rw [List.length_append]; omega
    have h2 := lines_long z.2.2
    refine ⟨fun y hy x hx => ?_, by rw [List.map_cons, List.sum_cons]; have := ih.2; omega⟩
    rcases List.mem_cons.1 hy with rfl | hy
    · have h3 : (lineT x).length ≤ (y.2.2.flatMap lineT).length := by
        obtain ⟨a, b, e⟩ := List.append_of_mem hx
        rw [e, List.flatMap_append, List.flatMap_cons, List.length_append, List.length_append]
        omega
      have h4 : x.2.length ≤ (lineT x).length := by unfold lineT; rw [List.length_append, List.length_cons]; omega
      omega
    · have := ih.1 y hy x hx
      omega
theorem hk_facts {p : Str} {l : List Gz} (hp : p.length ≤ 4000) (h : hkX 0 0 p = some ((gz l).map prj)) : Rgt (gz l) ∧ NOk (gz l) ∧ ctG (gz l) ≤ 4000 ∧ (∀ y ∈ gz l, ∀ x ∈ y.2.2.2.2, 0 < x.2.length ∧ x.1 ≤ 2) := by
  unfold hkX at h
  obtain ⟨h1, h2, h3, h4⟩ := hkL_read _ _ _ _ _ (Int.le_refl 0) h
  have h5 := lines_short h1
  have hm : ∀ y ∈ gz l, prj y ∈ (gz l).map prj := fun y hy => List.mem_map_of_mem hy
  have hc : ctG (gz l) ≤ 4000 := by
    have := h5.2
    rw [List.map_map] at this
    unfold ctG
    exact Nat.le_trans this hp
  refine ⟨rgr_ok _ h2, fun y hy => ?_, hc, fun y hy x hx => ?_⟩
  · obtain ⟨k1, k2, k3⟩ := h4 (prj y) (hm y hy)
    have k4 := RgR.mem h2 (prj y) (hm y hy)
    have k2' : 0 ≤ y.1 := k2
    have k3' : 0 ≤ y.2.1 := k3
    have k4' : y.1 ≤ 999999999 := k4
    have kT : y.2.1 ≤ 999999999 := by
      obtain ⟨j, hj, e⟩ := List.getElem_of_mem hy
      have := (rgr_ok _ h2 j hj).2.1.2.2.1
      rw [List.getD_eq_getElem?_getD, List.getElem?_eq_getElem hj] at this
      simp only [Option.getD_some, e] at this
      omega
    refine ⟨⟨y.1.toNat, by omega, by omega⟩, ⟨y.2.1.toNat, by omega, by omega⟩, ?_, fun x hx => ⟨(k1 x hx).k, ?_⟩⟩
    · have : y.2.2.2.2.length ≤ ctG (gz l) := by
        obtain ⟨a, b, e⟩ := List.append_of_mem hy
        unfold ctG
        rw [e]
        simp
        omega
      omega
    · have := h5.1 (prj y) (hm y hy) x hx
      omega
  · obtain ⟨k1, _⟩ := h4 (prj y) (hm y hy)
    exact ⟨List.length_pos_iff.2 (k1 x hx).ne, (k1 x hx).k⟩
theorem Tryz.results13 : Tryz.f13.results = #[.tmp 4, .tmp 5] := by kernel_rfl
theorem flat_snoc (M : List Str) (i : Nat) (t : Str) (hi : i < M.length) (ht : M.getD i [] = t) : (M.take (i + 1)).flatten = (M.take i).flatten ++ t := by
  rw [take_snocG [] M i hi, ht]
  simp
structure Qy (b o : Nat) (X : ByteArray) (W : World) : Prop where
  c0 : W.cell? ⟨b, o, none⟩ = some (.string X)
theorem txt_app (x y : Str) : (⟨(x ++ y).toArray⟩ : ByteArray) = ⟨x.toArray⟩ ++ ⟨y.toArray⟩ := by
  apply ByteArray.ext
  simp
set_option maxRecDepth 20000 in
set_option maxHeartbeats 3000000 in
theorem refApply_any {w0 : World} (a : Option Addr) (ca : Nat) (s : Str) (hA : PB w0 a ca s) (hs : s.length ≤ 4000) (b : Option Addr) (cb : Nat) (p : Str) (hB : PB w0 b cb p) (hp : p.length ≤ 4000) :
    Calls Tryz.prog 13 #[.slice a s.length ca, .slice b p.length cb] w0 (PostDA s p w0 w0.heap.size) := by
  obtain ⟨G0, HG0⟩ : ∃ n, Hid (w0.heap.size = n) := ⟨_, rfl⟩
  obtain ⟨ns, HNS⟩ : ∃ n, Hid (s.length = n) := ⟨_, rfl⟩
  obtain ⟨np, HNP⟩ : ∃ n, Hid (p.length = n) := ⟨_, rfl⟩
  have HPA : Hid (∀ W, Below G0 w0 W → PB W a ca s) := hid (fun W hW => hA.below (by rw [HG0.out]; exact hW))
  have HC1 : Hid (Calls Tryz.prog 22 #[.slice b np cb] w0 (PostHk p w0 G0)) := hid (by
    have := hunks_any b cb p hB hp
    rw [HNP.out, HG0.out] at this
    exact this)
  have HPL := hid hp
  have HSL := hid hs
  rw [HNS.out, HNP.out, HG0.out]
  clear hA hB hp hs
  go_enter Tryz.func13, Tryz.ntmps13
  go_wp2_with fail
  refine HC1.out.mono ?_
  rintro ev w1 ⟨hb1, ⟨l0, lv, hhk, hlp, hbz, hoz, rfl⟩ | ⟨hno, rfl⟩⟩
  rotate_left
  · go_wp2_with fail
    refine bodyPost_ret (results_tmp2 Tryz.results13 _ _ _) rfl ?_
    exact ⟨hb1, .inl ⟨hno, rfl⟩⟩
  have HHK := hid hhk
  have HB1 := hid hb1
  have HLP : Hid (l0.length ≤ 4000) := hid (by have := HPL.out; omega)
  obtain ⟨ha, hc, rfl, hpz, _⟩ := hbz.px (d := z0) (fun x _ => encHz_len x)
  have HPZ1 := hid hpz
  have HPE1 : Hid (∀ y ∈ l0, PE w1 y.2.2.2.2.1 y.2.2.2.2.2.1 y.2.2.2.2.2.2) := hid (fun y hy => own_peZ (hoz y hy) hbz.le)
  obtain ⟨hrg, hnk, hct, hwf⟩ := hk_facts HPL.out hhk
  have HC2 : Hid (Calls Tryz.prog 23 #[.slice a ns ca] w1 (PostS (lns s) w1)) := hid (by
    have := refLines_any a ca s (HPA.out w1 hb1) HSL.out
    rw [HNS.out] at this
    exact this)
  obtain ⟨q, HQ⟩ : ∃ n, Hid (l0.length = n) := ⟨_, rfl⟩
  rw [HQ.out]
  clear hhk hb1 hlp hbz hoz hpz
  go_wp2_with fail
  refine HC2.out.mono ?_
  rintro ev w ⟨xv, rfl, hbs⟩
  obtain ⟨X, HXX⟩ : ∃ X, Hid (lns s = X) := ⟨_, rfl⟩
  have HXL : Hid (Sht X) := hid (fun x hx => by rw [← HXX.out] at hx; have := lns_short s x hx; have := HSL.out; omega)
  have HXN : Hid (Nem X) := hid (fun x hx => by rw [← HXX.out] at hx; exact lns_ne s x hx)
  have HXF : Hid (X.length ≤ 4000) := hid (by rw [← HXX.out]; have := lns_few s; have := HSL.out; omega)
  rw [HXX.out] at hbs
  obtain ⟨xa, xc, rfl, hX, _⟩ := hbs.px (d := []) (fun x _ => encS_len x)
  obtain ⟨n, HN⟩ : ∃ n, Hid (X.length = n) := ⟨_, rfl⟩
  obtain ⟨G, HG⟩ : ∃ n, Hid (w.heap.size = n) := ⟨_, rfl⟩
  obtain ⟨l, HLl⟩ : ∃ l, Hid (gz l0 = l) := ⟨_, rfl⟩
  rw [HLl.out] at hrg hnk hct hwf
  have HBW : Hid (Below w1.heap.size w1 w) := hid hbs.below
  have HTOT : Hid (∀ W, Below G w W → Below G0 w0 W) := hid (fun W hW => (HB1.out.trans (HBW.out.mono (by have := HB1.out.size; have := HG0.out; omega))).trans (hW.mono (by have := HB1.out.size; have := HBW.out.size; have := HG0.out; have := HG.out; omega)))
  have hq6 : q ≤ 4000 := by rw [← HQ.out]; exact HLP.out
  have hn6 : n ≤ 4000 := by rw [← HN.out]; exact HXF.out
  have HCAP : Hid (n ≤ xc) := hid (by rw [← HN.out]; exact hX.capl)
  have HPX : Hid (∀ W, Below G w W → PS W xa xc X) := hid (fun W hW => hX.below (by rw [HG.out]; exact hW))
  have HPP : Hid (∀ W, Below G w W → PZ W ha hc l0) := hid (fun W hW => HPZ1.out.below (HBW.out.trans (hW.mono (by have := HBW.out.size; have := HG.out; omega))))
  have HPE : Hid (∀ W, Below G w W → ∀ y ∈ l0, PE W y.2.2.2.2.1 y.2.2.2.2.2.1 y.2.2.2.2.2.2) := hid (fun W hW y hy => (HPE1.out y hy).below (HBW.out.trans (hW.mono (by have := HBW.out.size; have := HG.out; omega))))
  have HFA : Hid (0 < q → ∃ b off, ha = some ⟨b, off, none⟩) := hid (fun h0 => by
    obtain ⟨b, off, e1, _⟩ := HPZ1.out.at_ (by rw [HQ.out]; exact h0)
    exact ⟨b, off, e1⟩)
  have HFX : Hid (0 < n → ∃ b off, xa = some ⟨b, off, none⟩) := hid (fun h0 => by
    obtain ⟨b, off, e1, _⟩ := hX.at_ (by rw [HN.out]; exact h0)
    exact ⟨b, off, e1⟩)
  have HLQ : Hid (l.length = q) := hid (by rw [← HLl.out, gz_len]; exact HQ.out)
  have HOK := hid hnk
  have HRG := hid hrg
  have HWF := hid hwf
  have HCT : Hid (ctG l ≤ 4000) := hid hct
  have HGS : Hid (∀ W, Below G w W → G ≤ W.heap.size) := hid (fun W hW => by have := hW.size; have := HG.out; omega)
  have HS0 : Hid (OuI X l w w G (.slice none 0 0) 0 0 []) := hid ⟨rfl, rfl, Nat.zero_le _, Nat.zero_le _, (fun x hx => by cases hx), ⟨Below.refl _ _, ⟨rfl, .inl ⟨rfl, rfl⟩⟩, by rw [HG.out]; exact Nat.le_refl _⟩⟩
  rw [HN.out]
  unfold PostDA
  rw [HXX.out]
  clear hX hbs hrg hnk hct hwf
  go_wp2_with fail
  go_loopg [9, 10, 11] q (fun gg mv av iv wr => ∃ (i at_ : Nat) (made : List Str), i ≤ q ∧ gg = q - i ∧ iv = .int .i64 i ∧ av = .int .i64 at_ ∧ Hid (OuI X l w wr G mv i at_ made) ∧ Hid (Nem made))
  case atStart => exact ⟨0, 0, [], Nat.zero_le _, rfl, rfl, rfl, HS0, hid (fun x hx => by cases hx)⟩
  case round =>
    obtain ⟨i, at_, made, hi, hkk, rfl, rfl, HS, HNM⟩ := hrel
    have hat6 : at_ ≤ 4000 := by have := HS.out.le; have := HN.out; omega
    by_cases hlt : i < q
    · have hlti : (i : Int) < (q : Int) := by omega
      obtain ⟨b, off, rfl⟩ := HFA.out (by omega)
      have hil0 : i < l0.length := by rw [HQ.out]; exact hlt
      have hil : i < l.length := by rw [HLQ.out]; exact hlt
      have HPW : Hid (∀ W, Below G w W → W.cell? ⟨b, off + i * 5, none⟩ = some (.int .i64 (l0.getD i z0).2.2.1) ∧ W.cell? ⟨b, off + i * 5 + 4, none⟩ = some (slE (l0.getD i z0).2.2)) := hid (fun W hW => PZ.two (HPP.out W hW) i hil0)
      obtain ⟨yz, HYZ⟩ : ∃ y, Hid (l0.getD i z0 = y) := ⟨_, rfl⟩
      have hyz : yz ∈ l0 := by rw [← HYZ.out]; exact getD_mem l0 i z0 hil0
      have HPM0 : Hid (∀ W, Below G w W → PE W yz.2.2.2.2.1 yz.2.2.2.2.2.1 yz.2.2.2.2.2.2) := hid (fun W hW => HPE.out W hW yz hyz)
      rw [HYZ.out] at HPW
      obtain ⟨y, HY⟩ : ∃ y, Hid (l.getD i g0 = y) := ⟨_, rfl⟩
      have hyy : yz.2.2 = y := by rw [← HYZ.out, ← gz_at, HLl.out]; exact HY.out
      rw [hyy] at HPW HPM0
      have hym : y ∈ l := by rw [← HY.out]; exact getD_mem l i g0 hil
      obtain ⟨⟨ya, hya, ya1⟩, ⟨yb, hyb, yb1⟩, hel, hlok⟩ := HOK.out y hym
      have hwy := HWF.out y hym
      have hrg := (HRG.out i hil).1
      rw [HY.out, ← HS.out.en] at hrg
      have HAPS : Hid (apL X (l.take (i + 1)) (0, []) = apH X (at_, made) y) := hid (apL_snoc X l i (0, []) (at_, made) y hil HY.out HS.out.ap)
      have HENX : Hid (enA l (i + 1) = y.1 + ((cA y.2.2.2.2 : Nat) : Int)) := hid (by rw [enA, HY.out])
      have HCTX : Hid (ctG (l.take (i + 1)) = ctG (l.take i) + y.2.2.2.2.length) := hid (ctG_snoc l i y hil HY.out)
      have HCTL : Hid (ctG (l.take i) + y.2.2.2.2.length ≤ 4000) := hid (by rw [← HCTX.out]; have := ctG_take l (i + 1); have := HCT.out; omega)
      clear hyy hyz hym hil hil0 HY HYZ
      obtain ⟨ya', yb', ea, ec, es⟩ := y
      unfold slE at HPW
      simp only at hya hyb hel hlok hrg HPM0 HENX HCTX HCTL HPW hwy
      subst hya hyb
      have HAH : Hid (apH X (at_, made) ((ya : Int), (yb : Int), ea, ec, es) = if (n : Int) < (ya : Int) then none else apE X es (ya, made ++ (X.drop at_).take (ya - at_))) := hid (by
        unfold apH
        rw [HN.out]
        simp only [Int.toNat_natCast])
      obtain ⟨ne, HNE⟩ : ∃ m, Hid (es.length = m) := ⟨_, rfl⟩
      rw [HNE.out] at HPW
      have hne6 : ne ≤ 4000 := by have := HCTL.out; have := HNE.out; omega
      have hata : at_ ≤ ya := by omega
      have HLOK := hid hlok
      have HWY := hid hwy
      have HSB : Hid (Below G w wr) := hid HS.out.bs.below
      obtain ⟨hc0, hc4⟩ := HPW.out wr HSB.out
      by_cases hbig : (n : Int) < (ya : Int)
      · have HNO : Hid (∀ M, chP X l = some M → ¬ arL M) := hid (chP_none (apL_none X l (i + 1) (0, []) (by rw [HAPS.out, HAH.out, if_pos hbig])))
        rw [← HLl.out] at HNO
        clear hrg hel hlok hwy
        go_wp2_with fail
        refine bodyPost_ret (results_tmp2 Tryz.results13 _ _ _) rfl ?_
        exact ⟨HTOT.out _ HSB.out, .inr ⟨l0, HHK.out, .inr ⟨(by rw [HXX.out]; exact HNO.out), rfl⟩⟩⟩
      · have hyan : ya ≤ n := by omega
        rw [if_neg hbig] at HAH
        obtain ⟨made1, HM1⟩ : ∃ m, Hid (made ++ (X.drop at_).take (ya - at_) = m) := ⟨_, rfl⟩
        rw [HM1.out] at HAH
        have HLEN : Hid (((X.drop at_).take (ya - at_)).length = ya - at_) := hid (by rw [List.length_take, List.length_drop]; have := HN.out; omega)
        have hsl : ∀ W : World, (Instr.slice 40 (.slice xa n xc) (some (.int .i64 (at_ : Int))) (some (.int .i64 (ya : Int))) none).run Tryz.prog W = .ok (.slice (adX 1 xa xc at_) (ya - at_ : Nat) (xc - at_ : Nat)) W := fun W => sl40_mid xa n xc at_ ya hata (by have := HCAP.out; omega) W
        have HPmid : Hid (PS wr (adX 1 xa xc at_) (xc - at_) ((X.drop at_).take (ya - at_))) := hid ((HPX.out wr HSB.out).mid at_ ya hata (by rw [HN.out]; exact hyan))
        have HML : Hid (made.length + (ya - at_) ≤ 2000000) := hid (by have := HS.out.ml; have := HCTL.out; omega)
        have HML1 : Hid (made1.length ≤ ya + ctG (l.take i)) := hid (by rw [← HM1.out, List.length_append, HLEN.out]; have := HS.out.ml; omega)
        have HSH1 : Hid (Sht made1) := hid (by
          rw [← HM1.out]
          intro x hx
          rcases List.mem_append.1 hx with hx | hx
          · exact HS.out.sh x hx
          · exact HXL.out x (List.mem_of_mem_drop (List.mem_of_mem_take hx)))
        have HNM1 : Hid (Nem made1) := hid (by
          rw [← HM1.out]
          intro x hx
          rcases List.mem_append.1 hx with hx | hx
          · exact HNM.out x hx
          · exact HXN.out x (List.mem_of_mem_drop (List.mem_of_mem_take hx)))
        have HBSa : Hid (BS w wr G u9 made) := hid HS.out.bs
        clear hrg hel hlok hwy
        go_wp2_with (first
          | (refine wpList_bx_sl (d := []) rfl _ _ 40 9 und24 Tryz.info9 rfl (by decide) (by decide) encS_one rfl G _ made rfl HBSa.out (adX 1 xa xc at_) (xc - at_) ((X.drop at_).take (ya - at_)) (by rw [HLEN.out]; rfl) HPmid.out (fun x _ => encS_len x) (by rw [HLEN.out]; have := HML.out; omega) ?_
             intro v8 w8 hb8 hg8
             obtain ⟨r0, r4⟩ := HPW.out w8 hb8.below)
          | fail)
        rw [HM1.out] at hb8
        have HI0 : Hid (InI X es (ya, made1) (ctG (l.take i)) w w8 G v8 0 ya made1) := hid ⟨rfl, rfl, by rw [HN.out]; exact hyan, by have := HML1.out; omega, HSH1.out, hb8⟩
        have HEF : Hid (0 < ne → ∃ b off, ea = some ⟨b, off, none⟩) := hid (fun h0 => by
          obtain ⟨b, off, e1, _⟩ := (HPM0.out w8 hb8.below).at_ (by rw [HNE.out]; exact h0)
          exact ⟨b, off, e1⟩)
        clear hb8 hg8 hc0 hc4 hbig r0 r4
        go_loopg [9, 10, 12] ne (fun gg mv av iv wq => ∃ (k at2 : Nat) (made2 : List Str), k ≤ ne ∧ gg = ne - k ∧ iv = .int .i64 k ∧ av = .int .i64 at2 ∧ Hid (InI X es (ya, made1) (ctG (l.take i)) w wq G mv k at2 made2) ∧ Hid (Nem made2))
        case atStart => exact ⟨0, ya, made1, Nat.zero_le _, rfl, rfl, rfl, HI0, HNM1⟩
        case round =>
          obtain ⟨k, at2, made2, hkl, hkk2, rfl, rfl, HI, HNM2⟩ := hrel
          have hat26 : at2 ≤ 4000 := by have := HI.out.le; have := HN.out; omega
          obtain ⟨hc0, hc4⟩ := HPW.out wr HI.out.bs.below
          by_cases hkt : k < ne
          · have hkti : (k : Int) < (ne : Int) := by omega
            obtain ⟨zb, zo, rfl⟩ := HEF.out (by omega)
            have hkl2 : k < es.length := by rw [HNE.out]; exact hkt
            have hrow := PE.row (HPM0.out _ HI.out.bs.below) k hkl2
            obtain ⟨x, HXE⟩ : ∃ x, Hid (es.getD k (0, []) = x) := ⟨_, rfl⟩
            rw [HXE.out] at hrow
            have hxm : x ∈ es := by rw [← HXE.out]; exact getD_mem es k _ hkl2
            obtain ⟨hm1, hm2⟩ := HLOK.out x hxm
            have hm3 := (HWY.out x hxm).1
            have HAPE : Hid (apE X (es.take (k + 1)) (ya, made1) = ap1 X (at2, made2) x) := hid (apE_snoc X es k (ya, made1) (at2, made2) x hkl2 HXE.out HI.out.ap)
            have HCAX : Hid (cA (es.take (k + 1)) = cA (es.take k) + if x.1 = 2 then 0 else 1) := hid (cA_take es k x hkl2 HXE.out)
            clear hxm
            obtain ⟨kd, xs⟩ := x
            simp only at hm1 hm2 hm3
            obtain ⟨Z, HZ⟩ : ∃ Z : ByteArray, Hid (⟨xs.toArray⟩ = Z) := ⟨_, hid rfl⟩
            unfold encE sV at hrow
            simp only [HZ.out] at hrow
            have HROW := hid hrow
            clear hrow
            obtain ⟨g2, HG2⟩ : ∃ m, Hid (wr.heap.size = m) := ⟨_, rfl⟩
            obtain ⟨wx, HWx⟩ : ∃ u, Hid (wr.alloc (.cells #[.int .i64 0, .string ⟨#[]⟩] 61) = u) := ⟨_, rfl⟩
            have HGx : Hid (wx.heap[g2]? = some (.cells #[.int .i64 0, .string ⟨#[]⟩] 61 (0, 0))) := hid (by rw [← HWx.out, ← HG2.out]; exact heap_alloc_new wr _)
            have HTx : Hid (wx.there g2 0 2) := hid (there_off HGx.out 0 (by simp))
            obtain ⟨wb, HWb⟩ : ∃ u, Hid (wx.setCells g2 0 (#[.int .i64 (kd : Int), .string Z] : Array Value).toList = u) := ⟨_, rfl⟩
            have HBb : Hid (Below wr.heap.size wr wb) := hid (by
              rw [← HWb.out]
              refine below_setCells (by rw [HG2.out]; exact Nat.le_refl _) _ _ _ _ ?_
              rw [← HWx.out]
              exact (Below.refl _ wr).alloc (Nat.le_refl _) _)
            have HRb : Hid (wb.rangeAt g2 0 [.int .i64 (kd : Int), .string Z]) := hid (by rw [← HWb.out]; exact World.rangeAt_setCells_same _ _ _ _ HTx.out)
            have HBSb : Hid (BS w wb G u9 made2) := hid (HI.out.bs.carry HBb.out)
            have p0 : wb.cell? ⟨g2, 0, none⟩ = some (.int .i64 (kd : Int)) := by simpa using HRb.out 0 _ rfl
            have p1 : wb.cell? ⟨g2, 1, none⟩ = some (.string Z) := by simpa using HRb.out 1 _ rfl
            have HBu : Hid (∀ W : World, (Instr.buildSlice 40 1 #[(0, .string Z)]).run Tryz.prog W = .ok (.slice (some ⟨W.heap.size, 0, none⟩) 1 1) (W.alloc (.cells #[.string Z] 9))) := hid (fun W => by rw [← HZ.out]; exact run_build24 xs W)
            have HML2 : Hid (made2.length + 1 ≤ 5000000) := hid (by have := HI.out.ml; have := HCTL.out; omega)
            have al2 : wr.alloc (.cells #[.int .i64 0, .string ⟨#[]⟩] 61) = wx := HWx.out
            have hs2 : wr.heap.size = g2 := HG2.out
            have HM2 := hid hm2
            have HM3 := hid hm3
            have HO2 : Hid ((#[.int .i64 (kd : Int), .string Z] : Array Value).all (·.oneCell') = true) := hid (by simp [Value.oneCell'])
            clear hkl2 hm2 hm3
            rcases (by omega : kd = 2 ∨ kd = 0 ∨ kd = 1) with hk2 | hk01
            · have HCA0 : Hid (cA (es.take (k + 1)) = cA (es.take k)) := hid (by rw [HCAX.out]; simp [hk2])
              have HK2 := hid hk2
              have hki2 : ((kd : Int) != 2) = false := by simp; omega
              have hki1 : ((kd : Int) != 1) = true := by simp; omega
              clear hk2
              obtain ⟨wc, HWc⟩ : ∃ u, Hid (wb.alloc (.cells #[.string Z] 9) = u) := ⟨_, rfl⟩
              have HBSc : Hid (BS w wc G u9 made2) := hid (by rw [← HWc.out]; exact HBSb.out.alloc _)
              have HPc : Hid (PS wc (some ⟨wb.heap.size, 0, none⟩) 1 [xs]) := hid (by
                rw [← HWc.out, ← HZ.out]
                exact ps_one xs wb)
              go_wp2_with (first
                | (refine wpList_load_mid rfl 61 _ rfl zb (zo + k * 2) rfl [.int .i64 (kd : Int), .string Z] _ HROW.out Tryz.underlying61 rfl size61 ?_)
                | (refine wpList_store_mid rfl 61 _ _ rfl g2 0 #[.int .i64 (kd : Int), .string Z] rfl rfl HTx.out size61 HO2.out ?_; rw [HWb.out])
                | (refine wpList_bS rfl 40 1 _ rfl (.string Z) _ rfl (HBu.out _) ?_; rw [HWc.out])
                | (refine wpList_bx_sl (d := []) rfl _ _ 40 9 und24 Tryz.info9 rfl (by decide) (by decide) encS_one rfl G _ made2 rfl HBSc.out (some ⟨wb.heap.size, 0, none⟩) 1 [xs] rfl HPc.out (fun x _ => encS_len x) (by have := HML2.out; simp; omega) ?_; intro v9 w9 hb9 hg9)
                | fail)
              have HIN : Hid (InI X es (ya, made1) (ctG (l.take i)) w w9 G v9 (k + 1) (at2) (made2 ++ [xs])) := hid ⟨by rw [HAPE.out]; exact ap1_two HK2.out, by rw [HCA0.out]; have := HI.out.en; omega, by exact HI.out.le, by have := HI.out.ml; simp; omega, HI.out.sh.snoc HM2.out, hb9⟩
              clear hb9 hg9
              go_wp2
              go_roundg (ne - (k + 1))
              case measure => omega
              case rel => exact ⟨k + 1, at2, made2 ++ [xs], by omega, rfl, by go_num, rfl, HIN, hid (HNM2.out.snoc HM3.out)⟩
            · have hkn2 : ¬ kd = 2 := by omega
              have hki2 : ((kd : Int) != 2) = true := by simp; omega
              have HCA1 : Hid (cA (es.take (k + 1)) = cA (es.take k) + 1) := hid (by rw [HCAX.out]; simp [hkn2])
              by_cases hend : at2 = n
              · have hei : (n : Int) ≤ (at2 : Int) := by omega
                have HNO : Hid (∀ M, chP X l = some M → ¬ arL M) := hid (chP_none (apL_none X l (i + 1) (0, []) (by
                  rw [HAPS.out, HAH.out]
                  exact apE_none X es (k + 1) _ (by rw [HAPE.out]; exact ap1_no hkn2 (fun h => by have h1 : at2 < X.length := h.1; have := HN.out; omega)))))
                rw [← HLl.out] at HNO
                have HBd : Hid (Below wb.heap.size wb wb.drew) := hid ⟨rfl, rfl, rfl, Nat.le_refl _, fun _ _ => rfl⟩
                have HFB : Hid (Below G w wb.drew) := hid (HBSb.out.carry HBd.out).below
                go_wp2_with (first
                  | (refine wpList_load_mid rfl 61 _ rfl zb (zo + k * 2) rfl [.int .i64 (kd : Int), .string Z] _ HROW.out Tryz.underlying61 rfl size61 ?_)
                  | (refine wpList_store_mid rfl 61 _ _ rfl g2 0 #[.int .i64 (kd : Int), .string Z] rfl rfl HTx.out size61 HO2.out ?_; rw [HWb.out])
                  | fail)
                clear p0 p1 al2 hs2
                refine wp_region_held_drew (S := fun _ => True) (by kernel_rfl) trivial (fun hHeld => ?_)
                generalize wb.drew = u0 at hHeld HBd HFB ⊢
                refine takeL (i := 0) (v := ?_) rfl (by kernel_rfl) (by kernel_rfl) (by kernel_rfl) (fun _ _ _ h => h) (Or.inl ⟨by rfl, ?_⟩) hHeld ?_
                rotate_left
                · rintro w' _; go_simp; rfl
                try simp only [Act.put, List.setIfInBounds_toArray, List.set_cons_zero, List.set_cons_succ]
                refine takeL (i := 1) (v := ?_) rfl (by kernel_rfl) (by kernel_rfl) (by kernel_rfl) (fun _ _ _ h => h) (Or.inl ⟨by rfl, ?_⟩) hHeld ?_
                rotate_left
                · rintro w' _; go_simp; rfl
                try simp only [Act.put, List.setIfInBounds_toArray, List.set_cons_zero, List.set_cons_succ]
                refine takeL (i := 2) (v := ?_) rfl (by kernel_rfl) (by kernel_rfl) (by kernel_rfl) (fun _ _ _ h => h) (Or.inl ⟨by rfl, ?_⟩) hHeld ?_
                rotate_left
                · rintro w' _; go_simp; rfl
                try simp only [Act.put, List.setIfInBounds_toArray, List.set_cons_zero, List.set_cons_succ]
                refine takeL (i := 3) (v := .bool true) rfl (by kernel_rfl) (by kernel_rfl) (by kernel_rfl) (fun _ _ _ h => h) (Or.inl ⟨by rfl, ?_⟩) hHeld ?_
                · rintro w' _; go_simp; try rfl
                try simp only [Act.put, List.setIfInBounds_toArray, List.set_cons_zero, List.set_cons_succ]
                refine takeL (i := 4) (v := .bool true) rfl (by kernel_rfl) (by kernel_rfl) (by kernel_rfl) (fun _ _ _ h => h) (Or.inl ⟨by rfl, ?_⟩) hHeld ?_
                · rintro w' _; go_simp; try rfl
                try simp only [Act.put, List.setIfInBounds_toArray, List.set_cons_zero, List.set_cons_succ]
                refine takeL (i := 5) (v := undef) rfl (by kernel_rfl) (by kernel_rfl) (by kernel_rfl) (fun _ _ _ h => h) (Or.inr ⟨by kernel_rfl, rfl⟩) hHeld ?_
                try simp only [Act.put, List.setIfInBounds_toArray, List.set_cons_zero, List.set_cons_succ]
                refine takeL (i := 6) (v := undef) rfl (by kernel_rfl) (by kernel_rfl) (by kernel_rfl) (fun _ _ _ h => h) (Or.inr ⟨by kernel_rfl, rfl⟩) hHeld ?_
                try simp only [Act.put, List.setIfInBounds_toArray, List.set_cons_zero, List.set_cons_succ]
                refine takeL (i := 7) (v := undef) rfl (by kernel_rfl) (by kernel_rfl) (by kernel_rfl) (fun _ _ _ h => h) (Or.inr ⟨by kernel_rfl, rfl⟩) hHeld ?_
                try simp only [Act.put, List.setIfInBounds_toArray, List.set_cons_zero, List.set_cons_succ]
                refine takeL (i := 8) (v := undef) rfl (by kernel_rfl) (by kernel_rfl) (by kernel_rfl) (fun _ _ _ h => h) (Or.inr ⟨by kernel_rfl, rfl⟩) hHeld ?_
                try simp only [Act.put, List.setIfInBounds_toArray, List.set_cons_zero, List.set_cons_succ]
                refine takeL (i := 9) (v := undef) rfl (by kernel_rfl) (by kernel_rfl) (by kernel_rfl) (fun _ _ _ h => h) (Or.inr ⟨by kernel_rfl, rfl⟩) hHeld ?_
                try simp only [Act.put, List.setIfInBounds_toArray, List.set_cons_zero, List.set_cons_succ]
                refine takeL (i := 10) (v := undef) rfl (by kernel_rfl) (by kernel_rfl) (by kernel_rfl) (fun _ _ _ h => h) (Or.inr ⟨by kernel_rfl, rfl⟩) hHeld ?_
                try simp only [Act.put, List.setIfInBounds_toArray, List.set_cons_zero, List.set_cons_succ]
                refine takeL (i := 11) (v := undef) rfl (by kernel_rfl) (by kernel_rfl) (by kernel_rfl) (fun _ _ _ h => h) (Or.inr ⟨by kernel_rfl, rfl⟩) hHeld ?_
                try simp only [Act.put, List.setIfInBounds_toArray, List.set_cons_zero, List.set_cons_succ]
                refine takeL (i := 12) (v := .bool true) rfl (by kernel_rfl) (by kernel_rfl) (by kernel_rfl) (fun _ _ _ h => h) (Or.inl ⟨by rfl, ?_⟩) hHeld ?_
                · rintro w' _; go_simp; try rfl
                try simp only [Act.put, List.setIfInBounds_toArray, List.set_cons_zero, List.set_cons_succ]
                refine wpAnyH_done (by kernel_rfl) ?_ _
                clear hHeld
                go_wp2
                refine bodyPost_ret (results_tmp2 Tryz.results13 _ _ _) rfl ?_
                exact ⟨HTOT.out _ HFB.out, .inr ⟨l0, HHK.out, .inr ⟨(by rw [HXX.out]; exact HNO.out), rfl⟩⟩⟩
              · have hlt2 : at2 < n := by have := HI.out.le; have := HN.out; omega
                have hei : ¬ (n : Int) ≤ (at2 : Int) := by omega
                have hlti2 : (at2 : Int) < (n : Int) := by omega
                obtain ⟨xb, xo, rfl⟩ := HFX.out (by omega)
                obtain ⟨yy, HYY⟩ : ∃ yy, Hid (X.getD at2 [] = yy) := ⟨_, rfl⟩
                obtain ⟨Y, HYB⟩ : ∃ Y : ByteArray, Hid (⟨yy.toArray⟩ = Y) := ⟨_, hid rfl⟩
                have HBd : Hid (Below wb.heap.size wb wb.drew) := hid ⟨rfl, rfl, rfl, Nat.le_refl _, fun _ _ => rfl⟩
                have HBSd : Hid (BS w wb.drew G u9 made2) := hid (HBSb.out.carry HBd.out)
                have HRd : Hid (wb.drew.rangeAt g2 0 [.int .i64 (kd : Int), .string Z]) := hid HRb.out
                have HQ0 : Hid (Q14 xb (xo + at2) g2 Y Z wb.drew) := hid ⟨by
                  have := (HPX.out wb.drew HBSd.out.below).str at2 (by rw [HN.out]; exact hlt2)
                  rw [HYY.out, HYB.out] at this
                  exact this, by simpa using HRd.out 1 _ rfl⟩
                go_wp2_with (first
                  | (refine wpList_load_mid rfl 61 _ rfl zb (zo + k * 2) rfl [.int .i64 (kd : Int), .string Z] _ HROW.out Tryz.underlying61 rfl size61 ?_)
                  | (refine wpList_store_mid rfl 61 _ _ rfl g2 0 #[.int .i64 (kd : Int), .string Z] rfl rfl HTx.out size61 HO2.out ?_; rw [HWb.out])
                  | fail)
                clear p0 p1 al2 hs2
                refine wp_region_held_drew (S := Q14 xb (xo + at2) g2 Y Z) (by kernel_rfl) HQ0.out (fun hHeld => ?_)
                generalize wb.drew = u0 at hHeld HBd HBSd HRd HQ0 ⊢
                refine takeL (i := 0) (v := ?_) rfl (by kernel_rfl) (by kernel_rfl) (by kernel_rfl) (fun _ _ _ h => h) (Or.inl ⟨by rfl, ?_⟩) hHeld ?_
                rotate_left
                · rintro w' ⟨c0, c1⟩; go_simp; rfl
                try simp only [Act.put, List.setIfInBounds_toArray, List.set_cons_zero, List.set_cons_succ]
                refine takeL (i := 1) (v := ?_) rfl (by kernel_rfl) (by kernel_rfl) (by kernel_rfl) (fun _ _ _ h => h) (Or.inl ⟨by rfl, ?_⟩) hHeld ?_
                rotate_left
                · rintro w' ⟨c0, c1⟩; go_simp; rfl
                try simp only [Act.put, List.setIfInBounds_toArray, List.set_cons_zero, List.set_cons_succ]
                refine takeL (i := 2) (v := ?_) rfl (by kernel_rfl) (by kernel_rfl) (by kernel_rfl) (fun _ _ _ h => h) (Or.inl ⟨by rfl, ?_⟩) hHeld ?_
                rotate_left
                · rintro w' ⟨c0, c1⟩; go_simp; rfl
                try simp only [Act.put, List.setIfInBounds_toArray, List.set_cons_zero, List.set_cons_succ]
                refine takeL (i := 3) (v := .bool false) rfl (by kernel_rfl) (by kernel_rfl) (by kernel_rfl) (fun _ _ _ h => h) (Or.inl ⟨by rfl, ?_⟩) hHeld ?_
                · rintro w' ⟨c0, c1⟩; go_simp; try rfl
                try simp only [Act.put, List.setIfInBounds_toArray, List.set_cons_zero, List.set_cons_succ]
                refine takeL (i := 4) (v := .bool false) rfl (by kernel_rfl) (by kernel_rfl) (by kernel_rfl) (fun _ _ _ h => h) (Or.inl ⟨by rfl, ?_⟩) hHeld ?_
                · rintro w' ⟨c0, c1⟩; go_simp; try rfl
                try simp only [Act.put, List.setIfInBounds_toArray, List.set_cons_zero, List.set_cons_succ]
                refine takeL (i := 5) (v := ?_) rfl (by kernel_rfl) (by kernel_rfl) (by kernel_rfl) (fun _ _ _ h => h) (Or.inl ⟨by rfl, ?_⟩) hHeld ?_
                rotate_left
                · rintro w' ⟨c0, c1⟩; go_simp; rfl
                try simp only [Act.put, List.setIfInBounds_toArray, List.set_cons_zero, List.set_cons_succ]
                refine takeL (i := 6) (v := ?_) rfl (by kernel_rfl) (by kernel_rfl) (by kernel_rfl) (fun _ _ _ h => h) (Or.inl ⟨by rfl, ?_⟩) hHeld ?_
                rotate_left
                · rintro w' ⟨c0, c1⟩; go_simp; rfl
                try simp only [Act.put, List.setIfInBounds_toArray, List.set_cons_zero, List.set_cons_succ]
                refine takeL (i := 7) (v := ?_) rfl (by kernel_rfl) (by kernel_rfl) (by kernel_rfl) (fun _ _ _ h => h) (Or.inl ⟨by rfl, ?_⟩) hHeld ?_
                rotate_left
                · rintro w' ⟨c0, c1⟩; go_simp; rfl
                try simp only [Act.put, List.setIfInBounds_toArray, List.set_cons_zero, List.set_cons_succ]
                refine takeL (i := 8) (v := ?_) rfl (by kernel_rfl) (by kernel_rfl) (by kernel_rfl) (fun _ _ _ h => h) (Or.inl ⟨by rfl, ?_⟩) hHeld ?_
                rotate_left
                · rintro w' ⟨c0, c1⟩; go_simp; rfl
                try simp only [Act.put, List.setIfInBounds_toArray, List.set_cons_zero, List.set_cons_succ]
                refine takeL (i := 9) (v := ?_) rfl (by kernel_rfl) (by kernel_rfl) (by kernel_rfl) (fun _ _ _ h => h) (Or.inl ⟨by rfl, ?_⟩) hHeld ?_
                rotate_left
                · rintro w' ⟨c0, c1⟩; go_simp; rfl
                try simp only [Act.put, List.setIfInBounds_toArray, List.set_cons_zero, List.set_cons_succ]
                refine takeL (i := 10) (v := ?_) rfl (by kernel_rfl) (by kernel_rfl) (by kernel_rfl) (fun _ _ _ h => h) (Or.inl ⟨by rfl, ?_⟩) hHeld ?_
                rotate_left
                · rintro w' ⟨c0, c1⟩; go_simp; rfl
                try simp only [Act.put, List.setIfInBounds_toArray, List.set_cons_zero, List.set_cons_succ]
                by_cases hne2 : yy = xs
                · have hbn : (Y.toList != Z.toList) = false := by rw [← HYB.out, ← HZ.out, hne2]; simp
                  have hXA : X.getD at2 [] = xs := by rw [HYY.out]; exact hne2
                  have q0 : u0.cell? ⟨g2, 0, none⟩ = some (.int .i64 (kd : Int)) := by simpa using HRd.out 0 _ rfl
                  have q1 : u0.cell? ⟨g2, 1, none⟩ = some (.string Z) := by simpa using HRd.out 1 _ rfl
                  have hYZ : Z = Y := by rw [← HYB.out, ← HZ.out, hne2]
                  subst hYZ
                  clear hne2
                  refine takeL (i := 11) (v := .bool false) rfl (by kernel_rfl) (by kernel_rfl) (by kernel_rfl) (fun _ _ _ h => h) (Or.inl ⟨by rfl, ?_⟩) hHeld ?_
                  · rintro w' ⟨c0, c1⟩; go_simp; try rfl
                  try simp only [Act.put, List.setIfInBounds_toArray, List.set_cons_zero, List.set_cons_succ]
                  refine takeL (i := 12) (v := .bool false) rfl (by kernel_rfl) (by kernel_rfl) (by kernel_rfl) (fun _ _ _ h => h) (Or.inl ⟨by rfl, ?_⟩) hHeld ?_
                  · rintro w' ⟨c0, c1⟩; go_simp; try rfl
                  try simp only [Act.put, List.setIfInBounds_toArray, List.set_cons_zero, List.set_cons_succ]
                  refine wpAnyH_done (by kernel_rfl) ?_ _
                  clear hHeld
                  rcases hk01 with hk0 | hk1
                  · have HK0 := hid hk0
                    have hki1 : ((kd : Int) != 1) = true := by simp; omega
                    clear hk0
                    obtain ⟨wc, HWc⟩ : ∃ u, Hid (u0.alloc (.cells #[.string Z] 9) = u) := ⟨_, rfl⟩
                    have HBSc : Hid (BS w wc G u9 made2) := hid (by rw [← HWc.out]; exact HBSd.out.alloc _)
                    have HPc : Hid (PS wc (some ⟨u0.heap.size, 0, none⟩) 1 [xs]) := hid (by
                      rw [← HWc.out, ← HZ.out]
                      exact ps_one xs u0)
                    go_wp2_with (first
                      | (refine wpList_bS rfl 40 1 _ rfl (.string Z) _ rfl (HBu.out _) ?_; rw [HWc.out])
                      | (refine wpList_bx_sl (d := []) rfl _ _ 40 9 und24 Tryz.info9 rfl (by decide) (by decide) encS_one rfl G _ made2 rfl HBSc.out (some ⟨u0.heap.size, 0, none⟩) 1 [xs] rfl HPc.out (fun x _ => encS_len x) (by have := HML2.out; simp; omega) ?_; intro v9 w9 hb9 hg9)
                      | fail)
                    have HIN : Hid (InI X es (ya, made1) (ctG (l.take i)) w w9 G v9 (k + 1) (at2 + 1) (made2 ++ [xs])) := hid ⟨by rw [HAPE.out]; exact ap1_zero HK0.out (by rw [HN.out]; exact hlt2) hXA, by rw [HCA1.out]; have := HI.out.en; omega, by rw [HN.out]; exact hlt2, by have := HI.out.ml; simp; omega, HI.out.sh.snoc HM2.out, hb9⟩
                    clear hb9 hg9
                    go_wp2
                    go_roundg (ne - (k + 1))
                    case measure => omega
                    case rel => exact ⟨k + 1, at2 + 1, made2 ++ [xs], by omega, rfl, by go_num, by go_num, HIN, hid (HNM2.out.snoc HM3.out)⟩
                  · have HK1 := hid hk1
                    have hki1 : ((kd : Int) != 1) = false := by simp; omega
                    clear hk1
                    have HIN : Hid (InI X es (ya, made1) (ctG (l.take i)) w u0 G u9 (k + 1) (at2 + 1) made2) := hid ⟨by rw [HAPE.out]; exact ap1_one HK1.out (by rw [HN.out]; exact hlt2) hXA, by rw [HCA1.out]; have := HI.out.en; omega, by rw [HN.out]; exact hlt2, by have := HI.out.ml; omega, HI.out.sh, HBSd.out⟩
                    go_wp2
                    go_roundg (ne - (k + 1))
                    case measure => omega
                    case rel => exact ⟨k + 1, at2 + 1, made2, by omega, rfl, by go_num, by go_num, HIN, HNM2⟩
                · have hbn : (Y.toList != Z.toList) = true := by
                    have h1 : (Y.toList == Z.toList) = false := by
                      rw [← HYB.out, ← HZ.out]
                      simp
                      exact hne2
                    rw [bne, h1]
                    rfl
                  have hnn : ¬ Y.toList = Z.toList := by
                    rw [← HYB.out, ← HZ.out]
                    simp
                    exact hne2
                  have HNO : Hid (∀ M, chP X l = some M → ¬ arL M) := hid (chP_none (apL_none X l (i + 1) (0, []) (by
                    rw [HAPS.out, HAH.out]
                    exact apE_none X es (k + 1) _ (by rw [HAPE.out]; exact ap1_no hkn2 (fun h => hne2 (by rw [← HYY.out]; exact h.2))))))
                  rw [← HLl.out] at HNO
                  have HFB : Hid (Below G w u0) := hid HBSd.out.below
                  clear hne2
                  refine takeL (i := 11) (v := .bool true) rfl (by kernel_rfl) (by kernel_rfl) (by kernel_rfl) (fun _ _ _ h => h) (Or.inl ⟨by rfl, ?_⟩) hHeld ?_
                  · rintro w' ⟨c0, c1⟩; go_simp; try rfl
                  try simp only [Act.put, List.setIfInBounds_toArray, List.set_cons_zero, List.set_cons_succ]
                  refine takeL (i := 12) (v := .bool true) rfl (by kernel_rfl) (by kernel_rfl) (by kernel_rfl) (fun _ _ _ h => h) (Or.inl ⟨by rfl, ?_⟩) hHeld ?_
                  · rintro w' ⟨c0, c1⟩; go_simp; try rfl
                  try simp only [Act.put, List.setIfInBounds_toArray, List.set_cons_zero, List.set_cons_succ]
                  refine wpAnyH_done (by kernel_rfl) ?_ _
                  clear hHeld
                  go_wp2
                  refine bodyPost_ret (results_tmp2 Tryz.results13 _ _ _) rfl ?_
                  exact ⟨HTOT.out _ HFB.out, .inr ⟨l0, HHK.out, .inr ⟨(by rw [HXX.out]; exact HNO.out), rfl⟩⟩⟩
          · have hge : ¬ (k : Int) < (ne : Int) := by omega
            have HET : Hid (es.take k = es) := hid (List.take_of_length_le (by rw [HNE.out]; omega))
            have HOU : Hid (OuI X l w wr G u9 (i + 1) at2 made2) := hid (by
              have h := HI.out
              have h1 := h.ap
              have h2 := h.en
              rw [HET.out] at h1 h2
              refine ⟨by rw [HAPS.out, HAH.out]; exact h1, by rw [HENX.out, h2]; simp, h.le, ?_, h.sh, h.bs⟩
              have h3 := h.ml
              rw [HCTX.out, HNE.out]
              omega)
            go_wp2
            go_roundg (q - (i + 1))
            case measure => omega
            case rel => exact ⟨i + 1, at2, made2, by omega, rfl, by go_num, rfl, HOU, HNM2⟩
    · have hlti : ¬ (i : Int) < (q : Int) := by omega
      have HTA : Hid (l.take i = l) := hid (List.take_of_length_le (by rw [HLQ.out]; omega))
      have hAN : at_ ≤ n := by rw [← HN.out]; exact HS.out.le
      obtain ⟨M, HMM⟩ : ∃ M, Hid (made ++ X.drop at_ = M) := ⟨_, rfl⟩
      have HCH : Hid (chP X (gz l0) = some M) := hid (by
        have h := HS.out.ap
        rw [HTA.out] at h
        unfold chP
        rw [HLl.out, h]
        simp only [Option.map_some]
        rw [HMM.out])
      have HLEN : Hid ((X.drop at_).length = n - at_) := hid (by rw [List.length_drop, HN.out])
      have hsl : ∀ W : World, (Instr.slice 40 (.slice xa n xc) (some (.int .i64 (at_ : Int))) none none).run Tryz.prog W = .ok (.slice (adX 1 xa xc at_) (n - at_ : Nat) (xc - at_ : Nat)) W := fun W => sl24_from xa n xc at_ hAN W
      have HBSa : Hid (BS w wr G u9 made) := hid HS.out.bs
      have HPf : Hid (PS wr (adX 1 xa xc at_) (xc - at_) (X.drop at_)) := hid ((HPX.out wr HS.out.bs.below).from at_ (by rw [HN.out]; exact hAN))
      have HML : Hid (made.length + (n - at_) ≤ 5000000) := hid (by have := HS.out.ml; have := ctG_take l i; have := HCT.out; omega)
      have HMS : Hid (Sht M) := hid (by
        rw [← HMM.out]
        intro x hx
        rcases List.mem_append.1 hx with hx | hx
        · exact HS.out.sh x hx
        · exact HXL.out x (List.mem_of_mem_drop hx))
      have HMN0 : Hid (Nem M) := hid (by
        rw [← HMM.out]
        intro x hx
        rcases List.mem_append.1 hx with hx | hx
        · exact HNM.out x hx
        · exact HXN.out x (List.mem_of_mem_drop hx))
      have HML8 : Hid (M.length ≤ 8000) := hid (by rw [← HMM.out, List.length_append, HLEN.out]; have := HS.out.ml; have := ctG_take l i; have := HCT.out; omega)
      have HMF : Hid (M.flatten.length ≤ 1000000000000) := hid (by have h1 := flats_len M HMS.out; have h2 : 1000000 * M.length ≤ 1000000 * 8000 := Nat.mul_le_mul_left _ HML8.out; omega)
      have HMLN : Hid (M.length ≤ 10000000) := hid (by rw [← HMM.out, List.length_append, HLEN.out]; have := HML.out; omega)
      go_wp2_with (first
        | (refine wpList_bx_sl (d := []) rfl _ _ 40 9 und24 Tryz.info9 rfl (by decide) (by decide) encS_one rfl G _ made rfl HBSa.out (adX 1 xa xc at_) (xc - at_) (X.drop at_) (by rw [HLEN.out]; rfl) HPf.out (fun x _ => encS_len x) (by rw [HLEN.out]; have := HML.out; omega) ?_
           intro v8 w8 hb8 hg8
           rw [HMM.out] at hb8
           obtain ⟨ma, mc, hmv, hps, _⟩ := hb8.px (d := []) (fun x _ => encS_len x)
           obtain ⟨mm, HMN⟩ : ∃ m, Hid (M.length = m) := ⟨_, rfl⟩
           rw [HMN.out] at hmv
           subst hmv
           have HB8 : Hid (Below G w w8) := hid hb8.below
           have HPS : Hid (∀ W, Below w8.heap.size w8 W → PS W ma mc M) := hid (fun W hW => hps.below hW)
           have HFM : Hid (0 < mm → ∃ b off, ma = some ⟨b, off, none⟩) := hid (fun h0 => by
             obtain ⟨b, off, e1, _⟩ := hps.at_ (by rw [HMN.out]; exact h0)
             exact ⟨b, off, e1⟩)
           clear hb8 hg8 hps)
        | fail)
      have hmm7 : mm ≤ 10000000 := by rw [← HMN.out]; exact HMLN.out
      go_loopg [14, 15] mm (fun gg ov iv wq => ∃ (j : Nat) (O : ByteArray), j ≤ mm ∧ gg = mm - j ∧ iv = .int .i64 j ∧ ov = .string O ∧ Hid (⟨(M.take j).flatten.toArray⟩ = O) ∧ Hid (Below w8.heap.size w8 wq) ∧ Hid (∀ j', j' < j → j' + 1 < M.length → (M.getD j' []).getLast? = some 10))
      case atStart => exact ⟨0, ⟨#[]⟩, Nat.zero_le _, rfl, rfl, rfl, hid rfl, hid (Below.refl _ _), hid (fun j' h => by omega)⟩
      case round =>
        obtain ⟨j, O, hj, hkj, rfl, rfl, HO, HBq, HD⟩ := hrel
        by_cases hjt : j < mm
        · have hjti : (j : Int) < (mm : Int) := by omega
          obtain ⟨mb, mo, rfl⟩ := HFM.out (by omega)
          have hjl : j < M.length := by rw [HMN.out]; exact hjt
          obtain ⟨t, HT⟩ : ∃ t, Hid (M.getD j [] = t) := ⟨_, rfl⟩
          have htm : t ∈ M := by rw [← HT.out]; exact getD_mem M j [] hjl
          obtain ⟨TX, HTX⟩ : ∃ X : ByteArray, Hid (⟨t.toArray⟩ = X) := ⟨_, hid rfl⟩
          have HCC : Hid (∀ W, Below w8.heap.size w8 W → W.cell? ⟨mb, mo + j, none⟩ = some (.string TX)) := hid (fun W hW => by
            have := (HPS.out W hW).str j hjl
            rw [HT.out, HTX.out] at this
            exact this)
          obtain ⟨tl, HTL⟩ : ∃ m, Hid (t.length = m + 1) := ⟨t.length - 1, hid (by have := HMN0.out t htm; omega)⟩
          have htl6 : tl ≤ 1000000 := by have := HMS.out t htm; have := HTL.out; omega
          have hTS : TX.size = tl + 1 := by rw [← HTX.out, sizeT]; exact HTL.out
          obtain ⟨c, HC⟩ : ∃ c, Hid (t.getD tl 0 = c) := ⟨_, rfl⟩
          have hTi : ∀ h : tl < TX.size, TX[tl]'h = c := fun h => by
            have := Lib.data_getElem? TX tl h
            have e : TX.data.toList = t := by rw [← HTX.out]
            rw [e] at this
            rw [← HC.out, List.getD_eq_getElem?_getD, this]
            rfl
          have HLA : Hid (t.getLast? = some c) := hid (by
            rw [List.getLast?_eq_getElem?, HTL.out, show tl + 1 - 1 = tl by omega, ← HC.out, List.getD_eq_getElem?_getD, List.getElem?_eq_getElem (by rw [HTL.out]; omega)]
            rfl)
          have htli : ((tl + 1 : Nat) : Int) - 1 = (tl : Int) := by omega
          have hwt : IntKind.i64.wrap (tl : Int) = (tl : Int) := by rw [IntKind.wrap_i64]; omega
          have hwj : IntKind.i64.wrap ((j : Int) + 1) = (j : Int) + 1 := by rw [IntKind.wrap_i64]; omega
          have hnt : ¬ (tl : Int) + 1 ≤ (tl : Int) := by omega
          obtain ⟨on, hOs⟩ : ∃ m, O.size = m := ⟨_, rfl⟩
          have hon : on ≤ 10000000000000 := by
            rw [← hOs, ← HO.out, sizeT]
            have h1 := flats_len (M.take j) (fun x hx => HMS.out x (List.mem_of_mem_take hx))
            rw [List.length_take] at h1
            have h2 : 1000000 * min j M.length ≤ 1000000 * 10000000 := Nat.mul_le_mul_left _ (by omega)
            omega
          have HFL : Hid (⟨(M.take (j + 1)).flatten.toArray⟩ = O ++ TX) := hid (by
            rw [flat_snoc M j t hjl HT.out, ← HO.out, ← HTX.out]
            exact txt_app _ _)
          have HJL := hid hjl
          clear hjl htm
          have HBd : Hid (Below w8.heap.size w8 wr.drew) := hid (HBq.out.trans ⟨rfl, rfl, rfl, Nat.le_refl _, fun _ _ => rfl⟩)
          have HQ0 : Hid (Qy mb (mo + j) TX wr.drew) := hid ⟨HCC.out _ HBd.out⟩
          go_wp2_with fail
          refine wp_region_held_drew (S := Qy mb (mo + j) TX) (by kernel_rfl) HQ0.out (fun hHeld => ?_)
          generalize wr.drew = u0 at hHeld HBd HQ0 ⊢
          have hcc := HCC.out u0 HBd.out
          by_cases hc : c = 10
          · have hci : (c.toNat : Int) = 10 := by rw [hc]; rfl
            have hcb : ((c.toNat : Int) != 10) = false := by simp; omega
            have hca : ((c.toNat : Int) == 10) = true := by simp; omega
            have HD2 : Hid (∀ j', j' < j + 1 → j' + 1 < M.length → (M.getD j' []).getLast? = some 10) := hid (fun j' h1 h2 => by
              by_cases e : j' = j
              · rw [e, HT.out, HLA.out, hc]
              · exact HD.out j' (by omega) h2)
            clear hc
            refine takeL (i := 0) (v := ?_) rfl (by kernel_rfl) (by kernel_rfl) (by kernel_rfl) (fun _ _ _ h => h) (Or.inl ⟨by rfl, ?_⟩) hHeld ?_
            rotate_left
            · rintro w' ⟨c0⟩; go_simp; rfl
            try simp only [Act.put, List.setIfInBounds_toArray, List.set_cons_zero, List.set_cons_succ]
            refine takeL (i := 1) (v := ?_) rfl (by kernel_rfl) (by kernel_rfl) (by kernel_rfl) (fun _ _ _ h => h) (Or.inl ⟨by rfl, ?_⟩) hHeld ?_
            rotate_left
            · rintro w' ⟨c0⟩; go_simp; rfl
            try simp only [Act.put, List.setIfInBounds_toArray, List.set_cons_zero, List.set_cons_succ]
            refine takeL (i := 2) (v := ?_) rfl (by kernel_rfl) (by kernel_rfl) (by kernel_rfl) (fun _ _ _ h => h) (Or.inl ⟨by rfl, ?_⟩) hHeld ?_
            rotate_left
            · rintro w' ⟨c0⟩; go_simp; rfl
            try simp only [Act.put, List.setIfInBounds_toArray, List.set_cons_zero, List.set_cons_succ]
            refine takeL (i := 3) (v := ?_) rfl (by kernel_rfl) (by kernel_rfl) (by kernel_rfl) (fun _ _ _ h => h) (Or.inl ⟨by rfl, ?_⟩) hHeld ?_
            rotate_left
            · rintro w' ⟨c0⟩; go_simp; rfl
            try simp only [Act.put, List.setIfInBounds_toArray, List.set_cons_zero, List.set_cons_succ]
            refine takeL (i := 4) (v := ?_) rfl (by kernel_rfl) (by kernel_rfl) (by kernel_rfl) (fun _ _ _ h => h) (Or.inl ⟨by rfl, ?_⟩) hHeld ?_
            rotate_left
            · rintro w' ⟨c0⟩; go_simp; rfl
            try simp only [Act.put, List.setIfInBounds_toArray, List.set_cons_zero, List.set_cons_succ]
            refine takeL (i := 5) (v := ?_) rfl (by kernel_rfl) (by kernel_rfl) (by kernel_rfl) (fun _ _ _ h => h) (Or.inl ⟨by rfl, ?_⟩) hHeld ?_
            rotate_left
            · rintro w' ⟨c0⟩; go_simp; rfl
            try simp only [Act.put, List.setIfInBounds_toArray, List.set_cons_zero, List.set_cons_succ]
            refine takeL (i := 6) (v := ?_) rfl (by kernel_rfl) (by kernel_rfl) (by kernel_rfl) (fun _ _ _ h => h) (Or.inl ⟨by rfl, ?_⟩) hHeld ?_
            rotate_left
            · rintro w' ⟨c0⟩; go_simp; rfl
            try simp only [Act.put, List.setIfInBounds_toArray, List.set_cons_zero, List.set_cons_succ]
            refine takeL (i := 7) (v := ?_) rfl (by kernel_rfl) (by kernel_rfl) (by kernel_rfl) (fun _ _ _ h => h) (Or.inl ⟨by rfl, ?_⟩) hHeld ?_
            rotate_left
            · rintro w' ⟨c0⟩; go_simp; rfl
            try simp only [Act.put, List.setIfInBounds_toArray, List.set_cons_zero, List.set_cons_succ]
            refine takeL (i := 8) (v := .int .i64 ((tl + 1 : Nat) : Int)) rfl (by kernel_rfl) (by kernel_rfl) (by kernel_rfl) (fun _ _ _ h => h) (Or.inl ⟨by rfl, ?_⟩) hHeld ?_
            · rintro w' ⟨c0⟩; go_simp; try rfl
            try simp only [Act.put, List.setIfInBounds_toArray, List.set_cons_zero, List.set_cons_succ]
            refine takeL (i := 9) (v := .int .i64 (tl : Int)) rfl (by kernel_rfl) (by kernel_rfl) (by kernel_rfl) (fun _ _ _ h => h) (Or.inl ⟨by rfl, ?_⟩) hHeld ?_
            · rintro w' ⟨c0⟩; go_simp; try rfl
            try simp only [Act.put, List.setIfInBounds_toArray, List.set_cons_zero, List.set_cons_succ]
            refine takeL (i := 10) (v := .int .u8 (c.toNat : Int)) rfl (by kernel_rfl) (by kernel_rfl) (by kernel_rfl) (fun _ _ _ h => h) (Or.inl ⟨by rfl, ?_⟩) hHeld ?_
            · rintro w' ⟨c0⟩; go_simp; try rfl
            try simp only [Act.put, List.setIfInBounds_toArray, List.set_cons_zero, List.set_cons_succ]
            refine takeL (i := 11) (v := .bool false) rfl (by kernel_rfl) (by kernel_rfl) (by kernel_rfl) (fun _ _ _ h => h) (Or.inl ⟨by rfl, ?_⟩) hHeld ?_
            · rintro w' ⟨c0⟩; go_simp; try rfl
            try simp only [Act.put, List.setIfInBounds_toArray, List.set_cons_zero, List.set_cons_succ]
            refine takeL (i := 12) (v := .bool false) rfl (by kernel_rfl) (by kernel_rfl) (by kernel_rfl) (fun _ _ _ h => h) (Or.inl ⟨by rfl, ?_⟩) hHeld ?_
            · rintro w' ⟨c0⟩; go_simp; try rfl
            try simp only [Act.put, List.setIfInBounds_toArray, List.set_cons_zero, List.set_cons_succ]
            refine takeL (i := 13) (v := undef) rfl (by kernel_rfl) (by kernel_rfl) (by kernel_rfl) (fun _ _ _ h => h) (Or.inr ⟨by kernel_rfl, rfl⟩) hHeld ?_
            try simp only [Act.put, List.setIfInBounds_toArray, List.set_cons_zero, List.set_cons_succ]
            refine takeL (i := 14) (v := undef) rfl (by kernel_rfl) (by kernel_rfl) (by kernel_rfl) (fun _ _ _ h => h) (Or.inr ⟨by kernel_rfl, rfl⟩) hHeld ?_
            try simp only [Act.put, List.setIfInBounds_toArray, List.set_cons_zero, List.set_cons_succ]
            refine takeL (i := 15) (v := undef) rfl (by kernel_rfl) (by kernel_rfl) (by kernel_rfl) (fun _ _ _ h => h) (Or.inr ⟨by kernel_rfl, rfl⟩) hHeld ?_
            try simp only [Act.put, List.setIfInBounds_toArray, List.set_cons_zero, List.set_cons_succ]
            refine takeL (i := 16) (v := undef) rfl (by kernel_rfl) (by kernel_rfl) (by kernel_rfl) (fun _ _ _ h => h) (Or.inr ⟨by kernel_rfl, rfl⟩) hHeld ?_
            try simp only [Act.put, List.setIfInBounds_toArray, List.set_cons_zero, List.set_cons_succ]
            refine takeL (i := 17) (v := undef) rfl (by kernel_rfl) (by kernel_rfl) (by kernel_rfl) (fun _ _ _ h => h) (Or.inr ⟨by kernel_rfl, rfl⟩) hHeld ?_
            try simp only [Act.put, List.setIfInBounds_toArray, List.set_cons_zero, List.set_cons_succ]
            refine takeL (i := 18) (v := .bool false) rfl (by kernel_rfl) (by kernel_rfl) (by kernel_rfl) (fun _ _ _ h => h) (Or.inl ⟨by rfl, ?_⟩) hHeld ?_
            · rintro w' ⟨c0⟩; go_simp; try rfl
            try simp only [Act.put, List.setIfInBounds_toArray, List.set_cons_zero, List.set_cons_succ]
            refine wpAnyH_done (by kernel_rfl) ?_ _
            clear hHeld
            go_wp2
            go_roundg (mm - (j + 1))
            case measure => omega
            case rel => exact ⟨j + 1, O ++ TX, by omega, rfl, by go_num, rfl, HFL, HBd, HD2⟩
          · have hci : ¬ (c.toNat : Int) = 10 := fun e => hc (UInt8.toNat_inj.1 (by rw [show c.toNat = 10 by omega]; rfl))
            have hcb : ((c.toNat : Int) != 10) = true := by simp; omega
            have hca : ((c.toNat : Int) == 10) = false := by simp; omega
            by_cases hlast : j + 1 < mm
            · have hli : (j : Int) + 1 < (mm : Int) := by omega
              have HNO : Hid (∀ M, chP X (gz l0) = some M → ¬ arL M) := hid (fun M2 h2 h3 => by
                rw [HCH.out] at h2
                cases h2
                have h4 := h3 j (by rw [HMN.out]; exact hlast)
                rw [HT.out, HLA.out] at h4
                exact hc (by simpa using h4))
              have HFB : Hid (Below G w u0) := hid (HB8.out.trans (HBd.out.mono (HGS.out _ HB8.out)))
              clear hc
              refine takeL (i := 0) (v := ?_) rfl (by kernel_rfl) (by kernel_rfl) (by kernel_rfl) (fun _ _ _ h => h) (Or.inl ⟨by rfl, ?_⟩) hHeld ?_
              rotate_left
              · rintro w' ⟨c0⟩; go_simp; rfl
              try simp only [Act.put, List.setIfInBounds_toArray, List.set_cons_zero, List.set_cons_succ]
              refine takeL (i := 1) (v := ?_) rfl (by kernel_rfl) (by kernel_rfl) (by kernel_rfl) (fun _ _ _ h => h) (Or.inl ⟨by rfl, ?_⟩) hHeld ?_
              rotate_left
              · rintro w' ⟨c0⟩; go_simp; rfl
              try simp only [Act.put, List.setIfInBounds_toArray, List.set_cons_zero, List.set_cons_succ]
              refine takeL (i := 2) (v := ?_) rfl (by kernel_rfl) (by kernel_rfl) (by kernel_rfl) (fun _ _ _ h => h) (Or.inl ⟨by rfl, ?_⟩) hHeld ?_
              rotate_left
              · rintro w' ⟨c0⟩; go_simp; rfl
              try simp only [Act.put, List.setIfInBounds_toArray, List.set_cons_zero, List.set_cons_succ]
              refine takeL (i := 3) (v := ?_) rfl (by kernel_rfl) (by kernel_rfl) (by kernel_rfl) (fun _ _ _ h => h) (Or.inl ⟨by rfl, ?_⟩) hHeld ?_
              rotate_left
              · rintro w' ⟨c0⟩; go_simp; rfl
              try simp only [Act.put, List.setIfInBounds_toArray, List.set_cons_zero, List.set_cons_succ]
              refine takeL (i := 4) (v := ?_) rfl (by kernel_rfl) (by kernel_rfl) (by kernel_rfl) (fun _ _ _ h => h) (Or.inl ⟨by rfl, ?_⟩) hHeld ?_
              rotate_left
              · rintro w' ⟨c0⟩; go_simp; rfl
              try simp only [Act.put, List.setIfInBounds_toArray, List.set_cons_zero, List.set_cons_succ]
              refine takeL (i := 5) (v := ?_) rfl (by kernel_rfl) (by kernel_rfl) (by kernel_rfl) (fun _ _ _ h => h) (Or.inl ⟨by rfl, ?_⟩) hHeld ?_
              rotate_left
              · rintro w' ⟨c0⟩; go_simp; rfl
              try simp only [Act.put, List.setIfInBounds_toArray, List.set_cons_zero, List.set_cons_succ]
              refine takeL (i := 6) (v := ?_) rfl (by kernel_rfl) (by kernel_rfl) (by kernel_rfl) (fun _ _ _ h => h) (Or.inl ⟨by rfl, ?_⟩) hHeld ?_
              rotate_left
              · rintro w' ⟨c0⟩; go_simp; rfl
              try simp only [Act.put, List.setIfInBounds_toArray, List.set_cons_zero, List.set_cons_succ]
              refine takeL (i := 7) (v := ?_) rfl (by kernel_rfl) (by kernel_rfl) (by kernel_rfl) (fun _ _ _ h => h) (Or.inl ⟨by rfl, ?_⟩) hHeld ?_
              rotate_left
              · rintro w' ⟨c0⟩; go_simp; rfl
              try simp only [Act.put, List.setIfInBounds_toArray, List.set_cons_zero, List.set_cons_succ]
              refine takeL (i := 8) (v := .int .i64 ((tl + 1 : Nat) : Int)) rfl (by kernel_rfl) (by kernel_rfl) (by kernel_rfl) (fun _ _ _ h => h) (Or.inl ⟨by rfl, ?_⟩) hHeld ?_
              · rintro w' ⟨c0⟩; go_simp; try rfl
              try simp only [Act.put, List.setIfInBounds_toArray, List.set_cons_zero, List.set_cons_succ]
              refine takeL (i := 9) (v := .int .i64 (tl : Int)) rfl (by kernel_rfl) (by kernel_rfl) (by kernel_rfl) (fun _ _ _ h => h) (Or.inl ⟨by rfl, ?_⟩) hHeld ?_
              · rintro w' ⟨c0⟩; go_simp; try rfl
              try simp only [Act.put, List.setIfInBounds_toArray, List.set_cons_zero, List.set_cons_succ]
              refine takeL (i := 10) (v := .int .u8 (c.toNat : Int)) rfl (by kernel_rfl) (by kernel_rfl) (by kernel_rfl) (fun _ _ _ h => h) (Or.inl ⟨by rfl, ?_⟩) hHeld ?_
              · rintro w' ⟨c0⟩; go_simp; try rfl
              try simp only [Act.put, List.setIfInBounds_toArray, List.set_cons_zero, List.set_cons_succ]
              refine takeL (i := 11) (v := .bool true) rfl (by kernel_rfl) (by kernel_rfl) (by kernel_rfl) (fun _ _ _ h => h) (Or.inl ⟨by rfl, ?_⟩) hHeld ?_
              · rintro w' ⟨c0⟩; go_simp; try rfl
              try simp only [Act.put, List.setIfInBounds_toArray, List.set_cons_zero, List.set_cons_succ]
              refine takeL (i := 12) (v := .bool true) rfl (by kernel_rfl) (by kernel_rfl) (by kernel_rfl) (fun _ _ _ h => h) (Or.inl ⟨by rfl, ?_⟩) hHeld ?_
              · rintro w' ⟨c0⟩; go_simp; try rfl
              try simp only [Act.put, List.setIfInBounds_toArray, List.set_cons_zero, List.set_cons_succ]
              refine takeL (i := 13) (v := ?_) rfl (by kernel_rfl) (by kernel_rfl) (by kernel_rfl) (fun _ _ _ h => h) (Or.inl ⟨by rfl, ?_⟩) hHeld ?_
              rotate_left
              · rintro w' ⟨c0⟩; go_simp; rfl
              try simp only [Act.put, List.setIfInBounds_toArray, List.set_cons_zero, List.set_cons_succ]
              refine takeL (i := 14) (v := ?_) rfl (by kernel_rfl) (by kernel_rfl) (by kernel_rfl) (fun _ _ _ h => h) (Or.inl ⟨by rfl, ?_⟩) hHeld ?_
              rotate_left
              · rintro w' ⟨c0⟩; go_simp; rfl
              try simp only [Act.put, List.setIfInBounds_toArray, List.set_cons_zero, List.set_cons_succ]
              refine takeL (i := 15) (v := ?_) rfl (by kernel_rfl) (by kernel_rfl) (by kernel_rfl) (fun _ _ _ h => h) (Or.inl ⟨by rfl, ?_⟩) hHeld ?_
              rotate_left
              · rintro w' ⟨c0⟩; go_simp; rfl
              try simp only [Act.put, List.setIfInBounds_toArray, List.set_cons_zero, List.set_cons_succ]
              refine takeL (i := 16) (v := ?_) rfl (by kernel_rfl) (by kernel_rfl) (by kernel_rfl) (fun _ _ _ h => h) (Or.inl ⟨by rfl, ?_⟩) hHeld ?_
              rotate_left
              · rintro w' ⟨c0⟩; go_simp; rfl
              try simp only [Act.put, List.setIfInBounds_toArray, List.set_cons_zero, List.set_cons_succ]
              refine takeL (i := 17) (v := .bool true) rfl (by kernel_rfl) (by kernel_rfl) (by kernel_rfl) (fun _ _ _ h => h) (Or.inl ⟨by rfl, ?_⟩) hHeld ?_
              · rintro w' ⟨c0⟩; go_simp; try rfl
              try simp only [Act.put, List.setIfInBounds_toArray, List.set_cons_zero, List.set_cons_succ]
              refine takeL (i := 18) (v := .bool true) rfl (by kernel_rfl) (by kernel_rfl) (by kernel_rfl) (fun _ _ _ h => h) (Or.inl ⟨by rfl, ?_⟩) hHeld ?_
              · rintro w' ⟨c0⟩; go_simp; try rfl
              try simp only [Act.put, List.setIfInBounds_toArray, List.set_cons_zero, List.set_cons_succ]
              refine wpAnyH_done (by kernel_rfl) ?_ _
              clear hHeld
              go_wp2
              refine bodyPost_ret (results_tmp2 Tryz.results13 _ _ _) rfl ?_
              exact ⟨HTOT.out _ HFB.out, .inr ⟨l0, HHK.out, .inr ⟨(by rw [HXX.out]; exact HNO.out), rfl⟩⟩⟩
            · have hli : ¬ (j : Int) + 1 < (mm : Int) := by omega
              have HD2 : Hid (∀ j', j' < j + 1 → j' + 1 < M.length → (M.getD j' []).getLast? = some 10) := hid (fun j' h1 h2 => by
                exact HD.out j' (by have := HMN.out; omega) h2)
              clear hc
              refine takeL (i := 0) (v := ?_) rfl (by kernel_rfl) (by kernel_rfl) (by kernel_rfl) (fun _ _ _ h => h) (Or.inl ⟨by rfl, ?_⟩) hHeld ?_
              rotate_left
              · rintro w' ⟨c0⟩; go_simp; rfl
              try simp only [Act.put, List.setIfInBounds_toArray, List.set_cons_zero, List.set_cons_succ]
              refine takeL (i := 1) (v := ?_) rfl (by kernel_rfl) (by kernel_rfl) (by kernel_rfl) (fun _ _ _ h => h) (Or.inl ⟨by rfl, ?_⟩) hHeld ?_
              rotate_left
              · rintro w' ⟨c0⟩; go_simp; rfl
              try simp only [Act.put, List.setIfInBounds_toArray, List.set_cons_zero, List.set_cons_succ]
              refine takeL (i := 2) (v := ?_) rfl (by kernel_rfl) (by kernel_rfl) (by kernel_rfl) (fun _ _ _ h => h) (Or.inl ⟨by rfl, ?_⟩) hHeld ?_
              rotate_left
              · rintro w' ⟨c0⟩; go_simp; rfl
              try simp only [Act.put, List.setIfInBounds_toArray, List.set_cons_zero, List.set_cons_succ]
              refine takeL (i := 3) (v := ?_) rfl (by kernel_rfl) (by kernel_rfl) (by kernel_rfl) (fun _ _ _ h => h) (Or.inl ⟨by rfl, ?_⟩) hHeld ?_
              rotate_left
              · rintro w' ⟨c0⟩; go_simp; rfl
              try simp only [Act.put, List.setIfInBounds_toArray, List.set_cons_zero, List.set_cons_succ]
              refine takeL (i := 4) (v := ?_) rfl (by kernel_rfl) (by kernel_rfl) (by kernel_rfl) (fun _ _ _ h => h) (Or.inl ⟨by rfl, ?_⟩) hHeld ?_
              rotate_left
              · rintro w' ⟨c0⟩; go_simp; rfl
              try simp only [Act.put, List.setIfInBounds_toArray, List.set_cons_zero, List.set_cons_succ]
              refine takeL (i := 5) (v := ?_) rfl (by kernel_rfl) (by kernel_rfl) (by kernel_rfl) (fun _ _ _ h => h) (Or.inl ⟨by rfl, ?_⟩) hHeld ?_
              rotate_left
              · rintro w' ⟨c0⟩; go_simp; rfl
              try simp only [Act.put, List.setIfInBounds_toArray, List.set_cons_zero, List.set_cons_succ]
              refine takeL (i := 6) (v := ?_) rfl (by kernel_rfl) (by kernel_rfl) (by kernel_rfl) (fun _ _ _ h => h) (Or.inl ⟨by rfl, ?_⟩) hHeld ?_
              rotate_left
              · rintro w' ⟨c0⟩; go_simp; rfl
              try simp only [Act.put, List.setIfInBounds_toArray, List.set_cons_zero, List.set_cons_succ]
              refine takeL (i := 7) (v := ?_) rfl (by kernel_rfl) (by kernel_rfl) (by kernel_rfl) (fun _ _ _ h => h) (Or.inl ⟨by rfl, ?_⟩) hHeld ?_
              rotate_left
              · rintro w' ⟨c0⟩; go_simp; rfl
              try simp only [Act.put, List.setIfInBounds_toArray, List.set_cons_zero, List.set_cons_succ]
              refine takeL (i := 8) (v := .int .i64 ((tl + 1 : Nat) : Int)) rfl (by kernel_rfl) (by kernel_rfl) (by kernel_rfl) (fun _ _ _ h => h) (Or.inl ⟨by rfl, ?_⟩) hHeld ?_
              · rintro w' ⟨c0⟩; go_simp; try rfl
              try simp only [Act.put, List.setIfInBounds_toArray, List.set_cons_zero, List.set_cons_succ]
              refine takeL (i := 9) (v := .int .i64 (tl : Int)) rfl (by kernel_rfl) (by kernel_rfl) (by kernel_rfl) (fun _ _ _ h => h) (Or.inl ⟨by rfl, ?_⟩) hHeld ?_
              · rintro w' ⟨c0⟩; go_simp; try rfl
              try simp only [Act.put, List.setIfInBounds_toArray, List.set_cons_zero, List.set_cons_succ]
              refine takeL (i := 10) (v := .int .u8 (c.toNat : Int)) rfl (by kernel_rfl) (by kernel_rfl) (by kernel_rfl) (fun _ _ _ h => h) (Or.inl ⟨by rfl, ?_⟩) hHeld ?_
              · rintro w' ⟨c0⟩; go_simp; try rfl
              try simp only [Act.put, List.setIfInBounds_toArray, List.set_cons_zero, List.set_cons_succ]
              refine takeL (i := 11) (v := .bool true) rfl (by kernel_rfl) (by kernel_rfl) (by kernel_rfl) (fun _ _ _ h => h) (Or.inl ⟨by rfl, ?_⟩) hHeld ?_
              · rintro w' ⟨c0⟩; go_simp; try rfl
              try simp only [Act.put, List.setIfInBounds_toArray, List.set_cons_zero, List.set_cons_succ]
              refine takeL (i := 12) (v := .bool true) rfl (by kernel_rfl) (by kernel_rfl) (by kernel_rfl) (fun _ _ _ h => h) (Or.inl ⟨by rfl, ?_⟩) hHeld ?_
              · rintro w' ⟨c0⟩; go_simp; try rfl
              try simp only [Act.put, List.setIfInBounds_toArray, List.set_cons_zero, List.set_cons_succ]
              refine takeL (i := 13) (v := ?_) rfl (by kernel_rfl) (by kernel_rfl) (by kernel_rfl) (fun _ _ _ h => h) (Or.inl ⟨by rfl, ?_⟩) hHeld ?_
              rotate_left
              · rintro w' ⟨c0⟩; go_simp; rfl
              try simp only [Act.put, List.setIfInBounds_toArray, List.set_cons_zero, List.set_cons_succ]
              refine takeL (i := 14) (v := ?_) rfl (by kernel_rfl) (by kernel_rfl) (by kernel_rfl) (fun _ _ _ h => h) (Or.inl ⟨by rfl, ?_⟩) hHeld ?_
              rotate_left
              · rintro w' ⟨c0⟩; go_simp; rfl
              try simp only [Act.put, List.setIfInBounds_toArray, List.set_cons_zero, List.set_cons_succ]
              refine takeL (i := 15) (v := ?_) rfl (by kernel_rfl) (by kernel_rfl) (by kernel_rfl) (fun _ _ _ h => h) (Or.inl ⟨by rfl, ?_⟩) hHeld ?_
              rotate_left
              · rintro w' ⟨c0⟩; go_simp; rfl
              try simp only [Act.put, List.setIfInBounds_toArray, List.set_cons_zero, List.set_cons_succ]
              refine takeL (i := 16) (v := ?_) rfl (by kernel_rfl) (by kernel_rfl) (by kernel_rfl) (fun _ _ _ h => h) (Or.inl ⟨by rfl, ?_⟩) hHeld ?_
              rotate_left
              · rintro w' ⟨c0⟩; go_simp; rfl
              try simp only [Act.put, List.setIfInBounds_toArray, List.set_cons_zero, List.set_cons_succ]
              refine takeL (i := 17) (v := .bool false) rfl (by kernel_rfl) (by kernel_rfl) (by kernel_rfl) (fun _ _ _ h => h) (Or.inl ⟨by rfl, ?_⟩) hHeld ?_
              · rintro w' ⟨c0⟩; go_simp; try rfl
              try simp only [Act.put, List.setIfInBounds_toArray, List.set_cons_zero, List.set_cons_succ]
              refine takeL (i := 18) (v := .bool false) rfl (by kernel_rfl) (by kernel_rfl) (by kernel_rfl) (fun _ _ _ h => h) (Or.inl ⟨by rfl, ?_⟩) hHeld ?_
              · rintro w' ⟨c0⟩; go_simp; try rfl
              try simp only [Act.put, List.setIfInBounds_toArray, List.set_cons_zero, List.set_cons_succ]
              refine wpAnyH_done (by kernel_rfl) ?_ _
              clear hHeld
              go_wp2
              go_roundg (mm - (j + 1))
              case measure => omega
              case rel => exact ⟨j + 1, O ++ TX, by omega, rfl, by go_num, rfl, HFL, HBd, HD2⟩
        · have hjti : ¬ (j : Int) < (mm : Int) := by omega
          have HTJ : Hid (M.take j = M) := hid (List.take_of_length_le (by rw [HMN.out]; omega))
          have HAR : Hid (arL M) := hid (fun j' h => HD.out j' (by have := HMN.out; omega) h)
          rw [HTJ.out] at HO
          obtain ⟨cap, w9, hcv, hpb, hb9⟩ := conv_bytes M.flatten wr
          obtain ⟨fl, HFLN⟩ : ∃ m, Hid (M.flatten.length = m) := ⟨_, rfl⟩
          rw [HO.out, HFLN.out] at hcv
          have HFB : Hid (Below G w w9) := hid (HB8.out.trans ((HBq.out.trans (hb9.mono HBq.out.size)).mono (HGS.out _ HB8.out)))
          have HPBf := hid hpb
          clear hpb hb9
          go_wp2_with fail
          refine bodyPost_ret (results_tmp2 Tryz.results13 _ _ _) rfl ?_
          exact ⟨HTOT.out _ HFB.out, .inr ⟨l0, HHK.out, .inl ⟨M, (by rw [HXX.out]; exact HCH.out), HAR.out, HMF.out, _, _, (by rw [HFLN.out]; rfl), HPBf.out⟩⟩⟩
end Go.Proofs.YtmpjapcijjjlbaaGreatDoor
