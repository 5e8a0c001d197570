import Derived.Test.YtikmbjfambjmaaaGreatDoorMf13
import Derived.Test.YtikmbjfambjmaaaGreatDoorMf12
import Derived.Test.YtikmbjfambjmaaaGreatDoorMf10
import Derived.Test.YtikmbjfambjmaaaGreatDoorMf03
namespace Go.Proofs.YtikmbjfambjmaaaGreatDoor
open Go.RowKit
variable [Inhabited Er] [Inhabited En]
set_option linter.unusedVariables false
set_option linter.unusedSectionVars false
set_option linter.unusedSimpArgs false
def PostWR (es : List Er) (w : World) (e : Ending) (w' : World) : Prop := Below w.heap.size w w' ∧
  ((okL es ∧ ∃ a cap, e = .returned (.tuple #[.slice a (treeB (srtE es)).length cap, .int .i64 0]) ∧ Sl w' a cap (nums (treeB (srtE es)))) ∨ (¬ okL es ∧ e = .returned (.tuple #[.slice none 0 0, .int .i64 21])))
theorem id_sl2 {w : World} {b o : Nat} {x : Er} (hr : w.rangeAt b o (erV x)) (hb : b < w.heap.size) (hx : x.id.length = 20) : Sl w (some ⟨b, o + 2, none⟩) 20 x.id :=
  ⟨by omega, fun _ => ⟨b, o + 2, rfl, hb, fun j hj => by
    have := hr (2 + j) (.int .u8 (x.id.getD j 0)) (by
      rw [Nat.add_comm 2 j]
      exact row_at .u8 x.id j hj)
    rw [← this]
    congr 2
    omega⟩, fun h => by cases h⟩
theorem er_outR (out : List Int) (x : Er) (h : ∀ n ∈ x.id, 0 ≤ n ∧ n < 256) : ((((out ++ nums (octB x.mode)) ++ [32]) ++ nums x.name) ++ [0]) ++ x.id = out ++ nums (erB x) := by
  rw [← er_out out x h, nums_app]
  have : nums (32 :: x.name) = 32 :: nums x.name := rfl
  rw [this]
  simp
theorem okL_snoc {es : List Er} {i : Nat} {x : Er} (h : okL (es.take i)) (hx : es.take (i + 1) = es.take i ++ [x]) (hm : okM x.mode) (he : okE x.name) (hd : ∀ y ∈ es.take i, y.name ≠ x.name) : okL (es.take (i + 1)) := by
  rw [hx]
  refine ⟨fun y hy => ?_, ?_⟩
  · rcases List.mem_append.1 hy with hy | hy
    · exact h.1 y hy
    · have : y = x := by simpa using hy
      subst this
      exact ⟨hm, he⟩
  · rw [List.map_append, List.nodup_append]
    refine ⟨h.2, by simp, fun a ha b hb => ?_⟩
    obtain ⟨y, hy, rfl⟩ := List.mem_map.1 ha
    have : b = x.name := by simpa using hb
    subst this
    exact hd y hy
theorem take_getD {es : List Er} {i : Nat} {y : Er} (h : y ∈ es.take i) : ∃ q, q < i ∧ es.getD q default = y := by
  obtain ⟨q, hq, rfl⟩ := List.mem_iff_getElem.1 h
  rw [List.length_take] at hq
  refine ⟨q, by omega, ?_⟩
  rw [List.getD_eq_getElem?_getD, List.getElem?_eq_getElem (by omega)]
  simp
theorem not_nodup {es : List Er} {k i : Nat} (hki : k < i) (hi : i < es.length) (he : (es.getD k default).name = (es.getD i default).name) : ¬ okL es := fun h => by
  have := List.pairwise_iff_getElem.1 h.2 k i (by rw [List.length_map]; omega) (by rw [List.length_map]; exact hi) hki
  rw [List.getD_eq_getElem?_getD, List.getD_eq_getElem?_getD, List.getElem?_eq_getElem (by omega), List.getElem?_eq_getElem hi] at he
  exact this (by simpa using he)
set_option maxRecDepth 20000 in
set_option maxHeartbeats 8000000 in
theorem writeTreeR_any (a : Option Addr) (cap : Nat) (es : List Er) (hwf : WfE es) (hn : es.length ≤ 1000) (w : World) (hP : Pe w a cap es) :
    Calls Tryz.prog 40 #[.slice a es.length cap] w (PostWR es w) := by
  obtain ⟨n, HN⟩ : ∃ n, Hid (es.length = n) := ⟨_, rfl⟩
  obtain ⟨G, HG⟩ : ∃ G, Hid (w.heap.size = G) := ⟨_, rfl⟩
  have hnn : n ≤ 1000 := by rw [← HN.out]; exact hn
  have hnI : ¬ (2000 : Int) < (n : Int) := by omega
  have HPA : Hid (∀ W, Below G w W → Pe W a cap es) := fun W hW => hP.below (by rw [HG.out]; exact hW)
  have HPL : Hid (0 < n → ∃ b off, a = some ⟨b, off, none⟩ ∧ b < G) := fun h0 => by
    obtain ⟨b, off, e1, e2, _⟩ := hP.at_ (by rw [HN.out]; exact h0)
    exact ⟨b, off, e1, by rw [← HG.out]; exact e2⟩
  have HCE : Hid (∀ b off, a = some ⟨b, off, none⟩ → ∀ W, Below G w W → ∀ i, i < n → W.cell? ⟨b, off + i * 22, none⟩ = some (.int .i64 (es.getD i default).mode) ∧ W.cell? ⟨b, off + i * 22 + 1, none⟩ = some (.string ⟨(es.getD i default).name.toArray⟩)) := fun b off hae W hW i hi => by
    obtain ⟨b', off', e1, e2, e3⟩ := (HPA.out W hW).at_ (by rw [HN.out]; omega)
    rw [hae] at e1
    cases e1
    have hr := e3 i (by rw [HN.out]; exact hi)
    exact ⟨by simpa using hr 0 _ rfl, by simpa using hr 1 _ rfl⟩
  have HWF : Hid (WfE es) := hwf
  have C50 : Hid (okL es → ∀ W, Below G w W → Calls Tryz.prog 62 #[.slice a n cap] W fun e w' => Below W.heap.size W w' ∧ ∃ a' cap', e = .returned (.slice a' n cap') ∧ Pe w' a' cap' (srtE es)) := fun hok W hW => by
    have := sorted_any a cap es (fun x hx => (hwf x hx).1) (fun x hx => by have := (hok.1 x hx).2.2.1; omega) hn W (HPA.out W hW)
    rw [HN.out] at this
    exact this
  have HB0 : Hid (Below G w w) := Below.refl _ _
  have HGS : Hid (G ≤ w.heap.size) := hid (by rw [HG.out]; exact Nat.le_refl _)
  have BAD : Hid (¬ okL es → ∀ W, Below G w W → PostWR es w (.returned (.tuple #[.slice none 0 0, .int .i64 21])) W) := fun h W hW => ⟨by rw [HG.out]; exact hW, .inr ⟨h, rfl⟩⟩
  rw [HN.out]
  clear hP hwf
  go_enter Tryz.func40, Tryz.ntmps40
  go_wp2_with fail
  go_loopg [4] n (fun g iv wr => ∃ i : Nat, i ≤ n ∧ g = n - i ∧ iv = .int .i64 i ∧ Hid (Below G w wr) ∧ Hid (okL (es.take i)))
  case atStart => exact ⟨0, Nat.zero_le _, rfl, rfl, HB0, hid ⟨by simp, by simp⟩⟩
  case round =>
    obtain ⟨i, hi, hk, rfl, HB, HOI⟩ := hrel
    by_cases hlt : i < n
    · have hlti : (i : Int) < (n : Int) := by omega
      obtain ⟨b, off, hae, hbG⟩ := HPL.out (by omega)
      obtain ⟨x, HX⟩ : ∃ x, Hid (es.getD i default = x) := ⟨_, rfl⟩
      have hxm : x ∈ es := by
        rw [← HX.out, List.getD_eq_getElem?_getD, List.getElem?_eq_getElem (by rw [HN.out]; exact hlt)]
        exact List.getElem_mem _
      have HXM : Hid (x ∈ es) := hxm
      obtain ⟨S, HS⟩ : ∃ S : ByteArray, Hid ((⟨x.name.toArray⟩ : ByteArray) = S) := ⟨_, rfl⟩
      obtain ⟨m, HM⟩ : ∃ m, Hid (x.mode = m) := ⟨_, rfl⟩
      obtain ⟨O, HO⟩ : ∃ S : ByteArray, Hid ((⟨(octB m).toArray⟩ : ByteArray) = S) := ⟨_, rfl⟩
      have HC : Hid (∀ W, Below G w W → W.cell? ⟨b, off + i * 22, none⟩ = some (.int .i64 m) ∧ W.cell? ⟨b, off + i * 22 + 1, none⟩ = some (.string S)) := fun W hW => by
        have := HCE.out b off hae W hW i hlt
        rw [HX.out, HM.out, HS.out] at this
        exact this
      have HCK : Hid (∀ W, Below G w W → ∀ k, k < n → W.cell? ⟨b, off + k * 22 + 1, none⟩ = some (.string ⟨(es.getD k default).name.toArray⟩)) := fun W hW k hk => (HCE.out b off hae W hW k hk).2
      subst hae
      have c0 := (HC.out wr HB.out).1
      have c1 := (HC.out wr HB.out).2
      have HTS : Hid (es.take (i + 1) = es.take i ++ [x]) := hid (by rw [take_snocE es i (by rw [HN.out]; exact hlt), HX.out])
      have C49 : Hid (∀ W, Calls Tryz.prog 61 #[.int .i64 m] W fun e w' => e = .returned (.string O) ∧ w' = W) := fun W => by rw [← HO.out]; exact octal_any m W
      have HOE : Hid (O.toList.isEmpty = (octB m).isEmpty) := hid (by rw [← HO.out, Lib.toList_data])
      clear hxm
      by_cases he : okE x.name
      · have C48 : Hid (∀ W, Calls Tryz.prog 60 #[.string S] W fun e w' => e = .returned (.bool true) ∧ w' = W) := fun W => by
          rw [← HS.out]
          refine (isName_any x.name W).mono ?_
          rintro e w' ⟨hb, h2⟩
          rcases bis_or hb with ⟨_, rfl⟩ | ⟨h, _⟩
          · exact ⟨rfl, h2⟩
          · exact absurd he h
        have HE : Hid (okE x.name) := he
        clear he
        by_cases hm : okM m
        · have hoe : O.toList.isEmpty = false := by
            rw [HOE.out]
            cases h : octB m with
            | nil => exact absurd hm ((octB_nil m).1 h)
            | cons p q => rfl
          have HMM : Hid (okM x.mode) := hid (by rw [HM.out]; exact hm)
          clear hm
          go_wp2_with (first
            | (go_at_call 60; refine (C48.out _).mono ?_; rintro ev w3 ⟨rfl, rfl⟩)
            | (go_at_call 61; refine (C49.out _).mono ?_; rintro ev w3 ⟨rfl, rfl⟩)
            | fail)
          go_loopg [6] i (fun g kv wq => ∃ k : Nat, k ≤ i ∧ g = i - k ∧ kv = .int .i64 k ∧ Hid (Below G w wq) ∧ Hid (∀ q, q < k → (es.getD q default).name ≠ x.name))
          case atStart => exact ⟨0, Nat.zero_le _, rfl, rfl, HB, hid (fun q hq => absurd hq (Nat.not_lt_zero _))⟩
          case round =>
            obtain ⟨k, hki, hkg, rfl, HBk, HNE⟩ := hrel
            by_cases hkl : k < i
            · have hkli : (k : Int) < (i : Int) := by omega
              have hkn : (k : Int) < (n : Int) := by omega
              obtain ⟨SY, HSY⟩ : ∃ S : ByteArray, Hid ((⟨(es.getD k default).name.toArray⟩ : ByteArray) = S) := ⟨_, rfl⟩
              have d1 : wr.cell? ⟨b, off + i * 22 + 1, none⟩ = some (.string S) := (HC.out wr HBk.out).2
              have d2 : wr.cell? ⟨b, off + k * 22 + 1, none⟩ = some (.string SY) := by rw [← HSY.out]; exact HCK.out wr HBk.out k (by omega)
              obtain ⟨bq, HBQ⟩ : ∃ bq : Bool, (SY.toList == S.toList) = bq := ⟨_, rfl⟩
              have HEQ : Hid (bq = true ↔ (es.getD k default).name = x.name) := hid (by
                rw [← HBQ, ← HSY.out, ← HS.out, Lib.toList_data, Lib.toList_data]
                simp)
              clear c0 c1
              go_wp2_with fail
              go_quiet (fail)
              have HBd : Hid (Below G w (wr.drewN nq)) := hid (below_drewH HBk.out nq)
              generalize wr.drewN nq = WQ at HBd ⊢
              cases bq with
              | true =>
                have HNO : Hid (¬ okL es) := hid (not_nodup hkl (by rw [HN.out]; exact hlt) (by rw [HX.out]; exact HEQ.out.1 rfl))
                go_wp2
                go_ret2
                exact BAD.out HNO.out _ HBd.out
              | false =>
                go_wp2
                go_roundg (i - (k + 1))
                case measure => omega
                case rel =>
                  refine ⟨k + 1, by omega, rfl, by go_num, HBd, hid (fun q hq => ?_)⟩
                  by_cases hqk : q < k
                  · exact HNE.out q hqk
                  · have : q = k := by omega
                    subst this
                    intro h
                    have := HEQ.out.2 h
                    cases this
            · have hkli : ¬ (k : Int) < (i : Int) := by omega
              have HOK1 : Hid (okL (es.take (i + 1))) := hid (okL_snoc HOI.out HTS.out HMM.out HE.out (fun y hy => by
                obtain ⟨q, hq, rfl⟩ := take_getD hy
                exact HNE.out q (by omega)))
              clear c0 c1
              go_wp2
              go_roundg (n - (i + 1))
              case measure => omega
              case rel => exact ⟨i + 1, by omega, rfl, by go_num, HBk, HOK1⟩
        · have hoe : O.toList.isEmpty = true := by rw [HOE.out, (octB_nil m).2 hm]; rfl
          have HNO : Hid (¬ okL es) := fun h => hm (by rw [← HM.out]; exact (h.1 x HXM.out).1)
          clear hm
          go_wp2_with (first
            | (go_at_call 60; refine (C48.out _).mono ?_; rintro ev w3 ⟨rfl, rfl⟩)
            | (go_at_call 61; refine (C49.out _).mono ?_; rintro ev w3 ⟨rfl, rfl⟩)
            | fail)
          go_ret2
          exact BAD.out HNO.out _ HB.out
      · have C48 : Hid (∀ W, Calls Tryz.prog 60 #[.string S] W fun e w' => e = .returned (.bool false) ∧ w' = W) := fun W => by
          rw [← HS.out]
          refine (isName_any x.name W).mono ?_
          rintro e w' ⟨hb, h2⟩
          rcases bis_or hb with ⟨h, _⟩ | ⟨_, rfl⟩
          · exact absurd h he
          · exact ⟨rfl, h2⟩
        have HNO : Hid (¬ okL es) := fun h => he (h.1 x HXM.out).2
        clear he
        go_wp2_with (first
          | (go_at_call 60; refine (C48.out _).mono ?_; rintro ev w3 ⟨rfl, rfl⟩)
          | fail)
        go_ret2
        exact BAD.out HNO.out _ HB.out
    · have hlti : ¬ (i : Int) < (n : Int) := by omega
      have HOK : Hid (okL es) := hid (by
        have := HOI.out
        rw [List.take_of_length_le (by rw [HN.out]; omega)] at this
        exact this)
      clear HOI
      go_wp2_with fail
      refine (C50.out HOK.out wr HB.out).mono ?_
      rintro ev w2 ⟨hb2, a1, cap1, rfl, hpe⟩
      have HPE2 : Hid (Pe w2 a1 cap1 (srtE es)) := hpe
      have HB2 : Hid (Below G w w2) := HB.out.trans (hb2.mono (Nat.le_trans HGS.out HB.out.size))
      clear hpe hb2
      obtain ⟨L, HL⟩ : ∃ L, Hid (srtE es = L) := ⟨_, rfl⟩
      obtain ⟨H, HH⟩ : ∃ H, Hid (w2.heap.size = H) := ⟨_, rfl⟩
      have HPM : Hid (L.Perm es) := hid (by rw [← HL.out]; exact srtE_perm es)
      have HLN : Hid (L.length = n) := hid (by rw [HPM.out.length_eq]; exact HN.out)
      have HLX : Hid (∀ x ∈ L, okM x.mode ∧ okE x.name ∧ x.id.length = 20 ∧ ∀ k ∈ x.id, 0 ≤ k ∧ k < 256) := fun x hx => by
        have hx' := HPM.out.subset hx
        exact ⟨(HOK.out.1 x hx').1, (HOK.out.1 x hx').2, HWF.out x hx'⟩
      have HPB : Hid (0 < n → ∃ b off, a1 = some ⟨b, off, none⟩ ∧ b < H) := fun h0 => by
        obtain ⟨b, off, e1, e2, _⟩ := HPE2.out.at_ (by rw [HL.out, HLN.out]; exact h0)
        exact ⟨b, off, e1, by rw [← HH.out]; exact e2⟩
      have HRL : Hid (∀ b off, a1 = some ⟨b, off, none⟩ → ∀ W, Below H w2 W → ∀ i, i < n → W.rangeAt b (off + i * 22) (erV (L.getD i default)) ∧ b < W.heap.size) := fun b off hae W hW i hi => by
        obtain ⟨b', off', e1, e2, e3⟩ := (HPE2.out.below (by rw [HH.out]; exact hW)).at_ (by rw [HL.out, HLN.out]; omega)
        rw [hae] at e1
        cases e1
        rw [HL.out] at e3
        exact ⟨e3 i (by rw [HLN.out]; exact hi), e2⟩
      have HGH : Hid (G ≤ H) := hid (by rw [← HH.out]; exact Nat.le_trans HGS.out HB2.out.size)
      have HTL : Hid (∀ i, (treeB (L.take i)).length ≤ 78000) := fun i => by
        have h1 := treeB_len (L.take i) (fun x hx => by
          have := HLX.out x (List.mem_of_mem_take hx)
          exact ⟨this.2.1.2.1, this.2.2.1⟩)
        have h2 : (L.take i).length ≤ 1000 := by rw [List.length_take, HLN.out]; omega
        omega
      go_wp2_with fail
      go_loopg [7, 9] n (fun g u iv wq => ∃ (i : Nat) (v : Value), v = u ∧ i ≤ n ∧ g = n - i ∧ iv = .int .i64 i ∧ Hid (Bd w2 wq H v (nums (treeB (L.take i)))))
      case atStart => exact ⟨0, _, rfl, Nat.zero_le _, rfl, rfl, hid (bd_nil w2 H (by rw [HH.out]; exact Nat.le_refl _))⟩
      case round =>
        obtain ⟨p, v, hv, hp, hkp, rfl, HBD⟩ := hrel
        subst hv
        by_cases hplt : p < n
        · have hplti : (p : Int) < (n : Int) := by omega
          obtain ⟨b2, off2, hae, hbH⟩ := HPB.out (by omega)
          obtain ⟨x, HX⟩ : ∃ x, Hid (L.getD p default = x) := ⟨_, rfl⟩
          have hxm : x ∈ L := by
            rw [← HX.out, List.getD_eq_getElem?_getD, List.getElem?_eq_getElem (by rw [HLN.out]; exact hplt)]
            exact List.getElem_mem _
          have HXO : Hid (okM x.mode ∧ okE x.name ∧ x.id.length = 20 ∧ ∀ k ∈ x.id, 0 ≤ k ∧ k < 256) := hid (HLX.out x hxm)
          have hx20 := HXO.out.2.2.1
          obtain ⟨S, HS⟩ : ∃ S : ByteArray, Hid ((⟨x.name.toArray⟩ : ByteArray) = S) := ⟨_, rfl⟩
          obtain ⟨m, HM⟩ : ∃ m, Hid (x.mode = m) := ⟨_, rfl⟩
          obtain ⟨nm, HNM2⟩ : ∃ l, Hid (x.name = l) := ⟨_, rfl⟩
          obtain ⟨oc, HOC⟩ : ∃ l, Hid (octB m = l) := ⟨_, rfl⟩
          have HR : Hid (∀ W, Below H w2 W → W.rangeAt b2 (off2 + p * 22) (erV x) ∧ b2 < W.heap.size) := fun W hW => by
            rw [← HX.out]; exact HRL.out b2 off2 hae W hW p hplt
          have HCM : Hid (∀ W, Below H w2 W → W.cell? ⟨b2, off2 + p * 22, none⟩ = some (.int .i64 m)) := fun W hW => by
            rw [← HM.out]; simpa using (HR.out W hW).1 0 _ rfl
          have HCN : Hid (∀ W, Below H w2 W → W.cell? ⟨b2, off2 + p * 22 + 1, none⟩ = some (.string ⟨nm.toArray⟩)) := fun W hW => by
            rw [← HNM2.out]; simpa using (HR.out W hW).1 1 _ rfl
          have C49 : Hid (∀ W, Calls Tryz.prog 61 #[.int .i64 m] W fun e w' => e = .returned (.string ⟨oc.toArray⟩) ∧ w' = W) := fun W => by rw [← HOC.out]; exact octal_any m W
          have e0 := HCM.out _ HBD.out.below
          obtain ⟨o0, HO0⟩ : ∃ o, Hid (nums (treeB (L.take p)) = o) := ⟨_, rfl⟩
          have hl0 : o0.length ≤ 78000 := by rw [← HO0.out, nums_len]; exact HTL.out p
          have hl1 : oc.length ≤ 6 := by rw [← HOC.out]; exact octB_len m
          have hl2 : nm.length ≤ 50 := by rw [← HNM2.out]; exact HXO.out.2.1.2.1
          rw [HO0.out] at HBD
          have hq1 : o0.length + oc.length ≤ 1000000 := by omega
          have hq2 : (o0 ++ nums oc).length + [(32 : Int)].length ≤ 1000000 := by rw [List.length_append, nums_len]; simp; omega
          have hq3 : ((o0 ++ nums oc) ++ [32]).length + nm.length ≤ 1000000 := by rw [List.length_append, List.length_append, nums_len]; simp; omega
          have hq4 : (((o0 ++ nums oc) ++ [32]) ++ nums nm).length + [(0 : Int)].length ≤ 1000000 := by rw [List.length_append, List.length_append, List.length_append, nums_len, nums_len]; simp; omega
          have hq5 : ((((o0 ++ nums oc) ++ [32]) ++ nums nm) ++ [0]).length + x.id.length ≤ 1000000 := by rw [List.length_append, List.length_append, List.length_append, List.length_append, nums_len, nums_len]; simp; omega
          subst hae
          clear hxm
          go_wp2_with (first
            | (go_at_call 61; refine (C49.out _).mono ?_; rintro ev w3 ⟨rfl, rfl⟩)
            | (at_builtin; refine wpList_bd_str rfl _ _ rfl H _ _ rfl HBD.out oc rfl hq1 ?_; intro v1 w1 hbd1; have HBD1 : Hid (Bd w2 w1 H v1 (o0 ++ nums oc)) := hbd1; clear hbd1)
            | (at_builtin; refine wpList_bd_sl rfl _ _ rfl H _ _ rfl (HBD1.out.alloc _) _ _ [32] rfl (sl_one _ _) hq2 ?_; intro v3 w3 hbd3; have HBD3 : Hid (Bd w2 w3 H v3 ((o0 ++ nums oc) ++ [32])) := hbd3; clear hbd3; have e3 := HCN.out _ HBD3.out.below)
            | (at_builtin; refine wpList_bd_str rfl _ _ rfl H _ _ rfl HBD3.out nm rfl hq3 ?_; intro v4 w4 hbd4; have HBD4 : Hid (Bd w2 w4 H v4 (((o0 ++ nums oc) ++ [32]) ++ nums nm)) := hbd4; clear hbd4 e3)
            | (at_builtin; refine wpList_bd_sl rfl _ _ rfl H _ _ rfl (HBD4.out.alloc _) _ _ [0] rfl (sl_one _ _) hq4 ?_; intro v5 w5 hbd5; have HBD5 : Hid (Bd w2 w5 H v5 ((((o0 ++ nums oc) ++ [32]) ++ nums nm) ++ [0])) := hbd5; clear hbd5)
            | (at_builtin; refine wpList_bd_sl rfl _ _ rfl H _ _ rfl HBD5.out (some ⟨b2, off2 + p * 22 + 2, none⟩) 20 x.id (by rw [hx20]; rfl) (id_sl2 (HR.out _ HBD5.out.below).1 (HR.out _ HBD5.out.below).2 hx20) hq5 ?_; intro v6 w6 hbd6; have HBD6 : Hid (Bd w2 w6 H v6 (((((o0 ++ nums oc) ++ [32]) ++ nums nm) ++ [0]) ++ x.id)) := hbd6; clear hbd6)
            | fail)
          go_roundg (n - (p + 1))
          case measure => omega
          case rel =>
            refine ⟨p + 1, _, rfl, by omega, rfl, by go_num, hid ?_⟩
            have h6 := HBD6.out
            rw [← HOC.out, ← HNM2.out, ← HM.out, er_outR o0 x HXO.out.2.2.2, ← HO0.out, ← nums_app, ← treeB_snoc, ← HX.out, ← take_snocE L p (by rw [HLN.out]; exact hplt)] at h6
            exact h6
        · have hplti : ¬ (p : Int) < (n : Int) := by omega
          have htk : L.take p = L := List.take_of_length_le (by rw [HLN.out]; omega)
          have HBE : Hid (Bd w2 wr H v (nums (treeB L))) := hid (by have := HBD.out; rw [htk] at this; exact this)
          obtain ⟨a9, c9, rfl, hsl⟩ := HBE.out.sl
          have HSL : Hid (Sl wr a9 c9 (nums (treeB L))) := hsl
          have HBZ : Hid (Below G w wr) := hid (HB2.out.trans (HBE.out.below.mono HGH.out))
          clear htk hsl
          go_wp2
          go_ret2
          refine ⟨by rw [HG.out]; exact HBZ.out, .inl ⟨HOK.out, a9, c9, ?_, ?_⟩⟩
          · rw [HL.out, ← nums_len (treeB L)]; rfl
          · rw [HL.out]; exact HSL.out
end Go.Proofs.YtikmbjfambjmaaaGreatDoor
namespace Go.Proofs.YtikmbjfambjmaaaGreatDoor
open Go.RowKit
set_option linter.unusedVariables false
section
variable {P : Program} {md : Region.Mode} {ops : Array Oper} {Q : Exit → Act → World → Prop} {S : World → Prop} {n : Nat}
def anyU (P : Program) (md : Region.Mode) (ops : Array Oper) (Q : Exit → Act → World → Prop) (S : World → Prop) (n : Nat) : Nat → Array Bool → Act → World → Prop
  | 0, listed, a, w => Region.ready md ops listed = [] ∧ Q .normal a w
  | fuel + 1, listed, a, w =>
    (Region.ready md ops listed = [] → Q .normal a w) ∧
    ∀ i ∈ Region.ready md ops listed, wpOp P ops Q i (fun a' w' => (i = n ∨ S w') ∧ anyU P md ops Q S n fuel (listed.setIfInBounds i true) a' w') a w
theorem any_of_U : ∀ (fuel : Nat) (listed : Array Bool) (a : Act) (w : World), anyU P md ops Q S n fuel listed a w → wpAny P md ops Q fuel listed a w
  | 0, _, _, _, h => h
  | fuel + 1, _, _, _, h => ⟨h.1, fun i hi => wpOp_mono (fun a' w' h' => any_of_U fuel _ a' w' h'.2) (h.2 i hi)⟩
def waits (md : Region.Mode) (ops : Array Oper) (n i : Nat) : Bool := match ops[n]? with
  | some o => o.after.any fun e => Region.binds md e && e.on == i
  | none => true
theorem U_first {i : Nat} {oi : Oper} {v : Value} (hi : ops[i]? = some oi) (hsel : ∀ (j : Nat) (o : Oper) cs b, ops[j]? = some o → o.op ≠ .select cs b) (hn : waits md ops n i = true)
    (hQ : ∀ c a w, Q (.panic c) (a.put oi.dst v) w → Q (.panic c) a w) :
    ∀ (fuel : Nat) (listed : Array Bool) (a : Act) (w : World),
      (∀ j oj, ops[j]? = some oj → j ≠ i → listed.getD j true = false → (∀ e ∈ oj.after, Region.binds md e = true → e.on ≠ i) → oi.apart ops oj = true) →
      i ∈ Region.ready md ops listed → YieldsIf P ops S oi v a → S w →
      anyU P md ops Q S n fuel (listed.setIfInBounds i true) (a.put oi.dst v) w → anyU P md ops Q S n (fuel + 1) listed a w := by
  intro fuel
  induction fuel with
  | zero =>
    intro listed a w _ hr hy hS H
    refine ⟨fun h => (by rw [h] at hr; cases hr), fun j hj => ?_⟩
    by_cases hji : j = i
    · subst hji; exact hy.wpOp hi hS ⟨.inr hS, H⟩
    · have := ready_mono hj hji
      rw [H.1] at this
      cases this
  | succ fuel ih =>
    intro listed a w hfree hr hy hS H
    refine ⟨fun h => (by rw [h] at hr; cases hr), fun j hj => ?_⟩
    by_cases hji : j = i
    · subst hji; exact hy.wpOp hi hS ⟨.inr hS, H⟩
    · have h1 := H.2 j (ready_mono hj hji)
      obtain ⟨hjun, oj, hoj, hall⟩ := mem_ready.1 hj
      have hnot : ∀ e ∈ oj.after, Region.binds md e = true → e.on ≠ i := fun e he hb heq => by
        have g1 := hall e he hb
        have g0 := (mem_ready.1 hr).1
        rw [heq] at g1
        rcases Nat.lt_or_ge i listed.size with h' | h'
        · simp [h'] at g0 g1; rw [g0] at g1; cases g1
        · simp [Array.getElem?_eq_none h'] at g1
      have hjn : j ≠ n := fun e => by
        subst e
        unfold waits at hn
        rw [hoj] at hn
        simp only [Array.any_eq_true] at hn
        obtain ⟨k, hk, hk2⟩ := hn
        simp only [Bool.and_eq_true, beq_iff_eq] at hk2
        exact hnot _ (Array.getElem_mem hk) hk2.1 hk2.2
      have h2 := wpOp_putIf hoj (hfree j oj hoj hji hjun hnot) (fun cs b => hsel i oi cs b hi) (fun cs b => hsel j oj cs b hoj) hQ hy h1
      have hfree' : ∀ k ok, ops[k]? = some ok → k ≠ i → (listed.setIfInBounds j true).getD k true = false →
          (∀ e ∈ ok.after, Region.binds md e = true → e.on ≠ i) → oi.apart ops ok = true := fun k ok hk hki hun hno => by
        refine hfree k ok hk hki ?_ hno
        by_cases hjk : j = k
        · subst hjk; exact hjun
        · rw [getD_set_ne true hjk] at hun; exact hun
      refine wpOp_mono (fun a' w' h3 => ⟨h3.2.1, ?_⟩) h2
      have hS' : S w' := h3.2.1.resolve_left hjn
      refine ih (listed.setIfInBounds j true) a' w' hfree' (ready_mono hr (Ne.symm hji)) h3.1 hS' ?_
      rw [Array.setIfInBounds_comm _ _ hji]
      exact h3.2.2
end
theorem takeU {P : Program} {md : Region.Mode} {Q : Exit → Act → World → Prop} {S : World → Prop} {n : Nat} {l : List Oper} {i : Nat} {oi : Oper} {v : Value} {fuel : Nat} {listed : Array Bool} {a : Act} {w : World} (hi : l[i]? = some oi)
    (hs : Region.noSelect l.toArray = true) (hf : Region.free md l.toArray listed i = true) (hr : (Region.ready md l.toArray listed).contains i = true) (hn : waits md l.toArray n i = true)
    (hQ : ∀ c a w, Q (.panic c) (a.put oi.dst v) w → Q (.panic c) a w) (hy : YieldsIf P l.toArray S oi v a) (hS : S w)
    (h : anyU P md l.toArray Q S n fuel (listed.setIfInBounds i true) (a.put oi.dst v) w) : anyU P md l.toArray Q S n (fuel + 1) listed a w := by
  have hi' : l.toArray[i]? = some oi := by rw [List.getElem?_toArray]; exact hi
  exact U_first hi' (Region.noSelect_spec hs) hn hQ fuel listed a w (Region.free_spec hi' hf) (by simpa using hr) hy hS h
def oneU (P : Program) (md : Region.Mode) (ops : Array Oper) (Q : Exit → Act → World → Prop) (S : World → Prop) (n fuel : Nat) (listed : Array Bool) (a : Act) (w : World) (i : Nat) : Prop :=
  wpOp P ops Q i (fun a' w' => (i = n ∨ S w') ∧ anyU P md ops Q S n fuel (listed.setIfInBounds i true) a' w') a w
theorem readyU1 {P : Program} {md : Region.Mode} {Q : Exit → Act → World → Prop} {S : World → Prop} {n i fuel : Nat} {ops : Array Oper} {listed : Array Bool} {a : Act} {w : World} (hr : Region.ready md ops listed = [i])
    (h : oneU P md ops Q S n fuel listed a w i) : anyU P md ops Q S n (fuel + 1) listed a w :=
  ⟨fun h0 => (by rw [hr] at h0; cases h0), fun j hj => by rw [hr] at hj; obtain rfl := List.mem_singleton.1 hj; exact h⟩
theorem consU {P : Program} {md : Region.Mode} {Q : Exit → Act → World → Prop} {S : World → Prop} {n : Nat} {l : List Oper} {fuel : Nat} {listed : Array Bool} {a : Act} {w : World} {i : Nat} {o : Oper} (ho : l[i]? = some o)
    (h : ∀ K' : Act → World → Prop, Shut (∀ a w, (i = n ∨ S w) → anyU P md l.toArray Q S n fuel (listed.setIfInBounds i true) a w → K' a w) → if Region.wanted o (yielded l.toArray a.tmps) = true then Oper.wp P o a w K' Q else K' (a.put o.dst undef) w) :
    oneU P md l.toArray Q S n fuel listed a w i := by
  have ho' : l.toArray[i]? = some o := by rw [List.getElem?_toArray]; exact ho
  exact wpOp_step ho' (fun K' hK => h K' (fun a w hS hW => hK a w ⟨hS, hW⟩))
theorem doneU {P : Program} {md : Region.Mode} {Q : Exit → Act → World → Prop} {S : World → Prop} {n : Nat} {ops : Array Oper} {listed : Array Bool} {a : Act} {w : World} (hr : Region.ready md ops listed = []) (h : Q .normal a w) :
    ∀ fuel, anyU P md ops Q S n fuel listed a w
  | 0 => ⟨hr, h⟩
  | _ + 1 => ⟨fun _ => h, by rw [hr]; simp⟩
theorem region_U {P : Program} {Q : Exit → Act → World → Prop} {id : Nat} {a : Act} {w : World} {ops : Array Oper} (S : World → Prop) (n : Nat) (hm : P.follows .mixedOrders = true)
    (h : anyU P .any ops Q S n ops.size (Array.replicate ops.size false) a w.drew) : (Code.region id ops true).wp P Q a w :=
  wp_region_any hm (any_of_U _ _ _ _ h)
end Go.Proofs.YtikmbjfambjmaaaGreatDoor
namespace Go.Proofs.YtikmbjfambjmaaaGreatDoor
open Go.RowKit
variable [Inhabited Er] [Inhabited En]
set_option linter.unusedVariables false
set_option linter.unusedSectionVars false
set_option linter.unusedSimpArgs false
def oval (l : List UInt8) : Int := l.foldl (fun acc c => acc * 8 + ((c.toNat : Int) - 48)) 0
theorem oval_snoc (l : List UInt8) (c : UInt8) : oval (l ++ [c]) = oval l * 8 + ((c.toNat : Int) - 48) := by simp [oval]
theorem oct_vals (m : Int) (h : okM m) : oval (octB m) = m ∧ (∀ k, oval ((octB m).take k) ≤ 1048576) ∧ ∀ c ∈ octB m, 48 ≤ c.toNat ∧ c.toNat ≤ 55 := by
  rcases h with rfl | rfl | rfl | rfl
  all_goals
    refine ⟨by decide +kernel, fun k => ?_, by decide +kernel⟩
    match k with
    | 0 => decide +kernel
    | 1 => decide +kernel
    | 2 => decide +kernel
    | 3 => decide +kernel
    | 4 => decide +kernel
    | 5 => decide +kernel
    | k + 6 => rw [List.take_of_length_le (by have := octB_len 16384; have := octB_len 33188; have := octB_len 33261; have := octB_len 40960; omega)]; decide +kernel
theorem stop_le (a b : List UInt8) (c : UInt8) (k : Nat) (h : c ∉ (a ++ c :: b).take k) : k ≤ a.length := by
  apply Classical.byContradiction
  intro hn
  apply h
  have : (a ++ c :: b).take k = a ++ (c :: b).take (k - a.length) := by rw [List.take_append, List.take_of_length_le (by omega)]
  rw [this, show k - a.length = (k - a.length - 1) + 1 by omega, List.take_succ_cons]
  simp
theorem stop_at (a b : List UInt8) (c : UInt8) (h : c ∉ a) (k : Nat) (h1 : c ∉ (a ++ c :: b).take k) (h2 : k = (a ++ c :: b).length ∨ (a ++ c :: b)[k]? = some c) : k = a.length := by
  have hle := stop_le a b c k h1
  rcases h2 with h2 | h2
  · rw [h2] at hle
    simp at hle
    omega
  · apply Classical.byContradiction
    intro hn
    rw [List.getElem?_append_left (by omega)] at h2
    exact h (List.mem_of_getElem? h2)
def okY (y : Er) : Prop := okM y.mode ∧ okE y.name ∧ y.id.length = 20 ∧ ∀ n ∈ y.id, 0 ≤ n ∧ n < 256
theorem erB_split (y : Er) (r : List UInt8) : erB y ++ r = octB y.mode ++ 32 :: (y.name ++ 0 :: (Lib.bytesOf y.id ++ r)) := by simp [erB]
theorem Rb.none {l : List UInt8} {es : List Er} {t : List UInt8} (h : Rb l es t) (hne : t ≠ []) (hno : ∀ y r, okY y → t = erB y ++ r → False) (u : List Er) (hu : okTr u) (e : treeB u = l) : False := by
  obtain ⟨u2, h1, h2, h3⟩ := h u hu e
  match u2, h2, h3 with
  | [], _, h3 => exact hne (by rw [← h3]; rfl)
  | y :: u3, h2, h3 =>
    rw [treeB_cons] at h3
    have hy := h2.1 y (by simp)
    have hy2 := h2.2 y (by simp)
    exact hno y (treeB u3) ⟨hy2.1, hy2.2, hy.1, hy.2⟩ h3.symm
theorem bad_digit {t : List UInt8} {k : Nat} {c : UInt8} (h32 : (32 : UInt8) ∉ t.take k) (hc : t[k]? = some c) (hne : c ≠ 32) (hb : c.toNat < 48 ∨ 55 < c.toNat ∨ 1048576 < oval (t.take k)) : ∀ y r, okY y → t = erB y ++ r → False := by
  intro y r hy ht
  rw [erB_split] at ht
  subst ht
  have hle := stop_le _ _ _ k h32
  obtain ⟨v1, v2, v3⟩ := oct_vals y.mode hy.1
  have hlt : k < (octB y.mode).length := by
    apply Classical.byContradiction
    intro hn
    have : k = (octB y.mode).length := by omega
    subst this
    rw [List.getElem?_append_right (Nat.le_refl _), Nat.sub_self] at hc
    exact hne (by simpa using hc.symm)
  rw [List.getElem?_append_left hlt] at hc
  have := v3 c (List.mem_of_getElem? hc)
  rcases hb with h | h | h
  · omega
  · omega
  · rw [List.take_append_of_le_length hle] at h
    have := v2 k
    omega
theorem rf_doc {t : List UInt8} {k j : Nat} (h32 : (32 : UInt8) ∉ t.take k) (hs1 : k = t.length ∨ t[k]? = some 32) (h0 : (0 : UInt8) ∉ (t.drop (k + 1)).take j) (hs2 : j = (t.drop (k + 1)).length ∨ (t.drop (k + 1))[j]? = some 0) :
    ∀ y r, okY y → t = erB y ++ r → k = (octB y.mode).length ∧ j = y.name.length ∧ oval (t.take k) = y.mode ∧ (t.drop (k + 1)).take j = y.name ∧ t.drop (k + 1 + (j + 1)) = Lib.bytesOf y.id ++ r := by
  intro y r hy ht
  rw [erB_split] at ht
  subst ht
  have hk := stop_at _ _ 32 (fun hm => (octB_ne _ _ hm).1 rfl) k h32 hs1
  have hd : (octB y.mode ++ 32 :: (y.name ++ 0 :: (Lib.bytesOf y.id ++ r))).drop (k + 1) = y.name ++ 0 :: (Lib.bytesOf y.id ++ r) := by
    rw [hk, List.drop_append, List.drop_eq_nil_of_le (by omega), show (octB y.mode).length + 1 - (octB y.mode).length = 1 by omega]
    rfl
  rw [hd] at h0 hs2
  have hj := stop_at _ _ 0 (fun hm => (hy.2.1.2.2.2.2.2 _ hm).2 rfl) j h0 hs2
  refine ⟨hk, hj, ?_, ?_, ?_⟩
  · rw [hk, List.take_left' rfl]
    exact (oct_vals y.mode hy.1).1
  · rw [hd, hj, List.take_left' rfl]
  · rw [← List.drop_drop, hd, hj, List.drop_append, List.drop_eq_nil_of_le (by omega), show y.name.length + 1 - y.name.length = 1 by omega]
    rfl
theorem short_doc {t : List UInt8} {k j : Nat} (h32 : (32 : UInt8) ∉ t.take k) (hs1 : k = t.length ∨ t[k]? = some 32) (h0 : (0 : UInt8) ∉ (t.drop (k + 1)).take j) (hs2 : j = (t.drop (k + 1)).length ∨ (t.drop (k + 1))[j]? = some 0) (hlen : t.length < k + 1 + j + 21) : ∀ y r, okY y → t = erB y ++ r → False := by
  intro y r hy ht
  obtain ⟨e1, e2, _⟩ := rf_doc h32 hs1 h0 hs2 y r hy ht
  have := congrArg List.length ht
  rw [List.length_append, erB_len, hy.2.2.1] at this
  omega
theorem entry_doc {t : List UInt8} {k j : Nat} (h32 : (32 : UInt8) ∉ t.take k) (hs1 : k = t.length ∨ t[k]? = some 32) (h0 : (0 : UInt8) ∉ (t.drop (k + 1)).take j) (hs2 : j = (t.drop (k + 1)).length ∨ (t.drop (k + 1))[j]? = some 0) :
    Rf t ⟨oval (t.take k), (t.drop (k + 1)).take j, nums ((t.drop (k + 1 + (j + 1))).take 20)⟩ (t.drop (k + 1 + (j + 1) + 20)) := by
  intro y r hm he hl hb ht
  obtain ⟨e1, e2, e3, e4, e5⟩ := rf_doc h32 hs1 h0 hs2 y r ⟨hm, he, hl, hb⟩ ht
  have hbl : (Lib.bytesOf y.id).length = 20 := by rw [Lib.bytesOf_length, hl]
  refine ⟨?_, ?_⟩
  · rw [e3, e4, e5, List.take_left' hbl, nums_bytes y.id hb]
  · rw [← List.drop_drop, e5, List.drop_left' hbl]
def PostRD (G : Nat) (l : List UInt8) (e : Ending) (w' : World) : Prop := ∃ a cap ed b, e = .returned (.tuple #[.slice a ed.length cap, .bool b]) ∧ (b = true → (∀ p : Addr, a = some p → G ≤ p.block) ∧ Pe w' a cap ed ∧ WfE ed ∧ okL ed ∧ treeB (srtE ed) = l) ∧ ∀ u, okTr u → okL u → srtE u = u → treeB u = l → b = true ∧ ed = u
theorem PostRD.no {G : Nat} {l : List UInt8} {w' : World} (h : ∀ u, okTr u → treeB u = l → False) : PostRD G l (.returned (.tuple #[.slice none 0 0, .bool false])) w' :=
  ⟨none, 0, [], false, rfl, (fun h => by cases h), fun u h1 _ _ h4 => absurd (h u h1 h4) (fun h => h)⟩
theorem blk_set {w : World} {K t : Nat} {R : List Value} (h : w.heap[K]? = some (.cells R.toArray t (0, 0))) (o : Nat) (v : Value) : (w.setCell ⟨K, o, none⟩ v).heap[K]? = some (.cells (R.set o v).toArray t (0, 0)) :=
  heap_setCells_same K t [v] o w R h
end Go.Proofs.YtikmbjfambjmaaaGreatDoor
