import Derived.Test.YtenbdeljblmbhaaGreatDoorMt30
import Derived.Test.YtenbdeljblmbhaaGreatDoorMt32
import Derived.Test.YtenbdeljblmbhaaGreatDoorMt31
import Derived.Test.YtenbdeljblmbhaaGreatDoorMt23
import Derived.Test.YtenbdeljblmbhaaGreatDoorMt15
import Derived.Test.YtenbdeljblmbhaaGreatDoorMt26
/- The document's 'WriteTree'. -/
namespace Go.Proofs.YtenbdeljblmbhaaGreatDoor
open Go.RowKit
set_option linter.unusedVariables false
set_option linter.unusedSimpArgs false
/-- What the document's 'WriteTree' gives. -/
def PostWR (es : List Er) (w : World) (e : Ending) (w' : World) : Prop := Below w.heap.size w w' ∧
  ((okL es ∧ ∃ a cap, e = .returned (.tuple #[.slice a (treeB (srtE es)).length cap, .int .i64 0]) ∧ Sl w' a cap (nums (treeB (srtE es)))) ∨ (¬ okL es ∧ e = .returned (.tuple #[.slice none 0 0, .int .i64 21])))
theorem id_sl2 {w : World} {b o : Nat} {x : Er} (hr : w.rangeAt b o (erV x)) (hb : b < w.heap.size) (hx : x.id.length = 20) : Sl w (some ⟨b, o + 2, none⟩) 20 x.id :=
  ⟨by omega, fun _ => ⟨b, o + 2, rfl, hb, fun j hj => by
    have := hr (2 + j) (.int .u8 (x.id.getD j 0)) (by
      rw [Nat.add_comm 2 j]
      exact row_at .u8 x.id j hj)
    rw [← this]
    congr 2
    omega⟩, fun h => by cases h⟩
theorem er_outR (out : List Int) (x : Er) (h : ∀ n ∈ x.id, 0 ≤ n ∧ n < 256) : ((((out ++ nums (octB x.mode)) ++ [32]) ++ nums x.name) ++ [0]) ++ x.id = out ++ nums (erB x) := by
  rw [← er_out out x h, nums_app]
  have : nums (32 :: x.name) = 32 :: nums x.name := rfl
  rw [this]
  simp
theorem okL_snoc {es : List Er} {i : Nat} {x : Er} (h : okL (es.take i)) (hx : es.take (i + 1) = es.take i ++ [x]) (hm : okM x.mode) (he : okE x.name) (hd : ∀ y ∈ es.take i, y.name ≠ x.name) : okL (es.take (i + 1)) := by
  rw [hx]
  refine ⟨fun y hy => ?_, ?_⟩
  · rcases List.mem_append.1 hy with hy | hy
    · exact h.1 y hy
    · have : y = x := by simpa using hy
      subst this
      exact ⟨hm, he⟩
  · rw [List.map_append, List.nodup_append]
    refine ⟨h.2, by simp, fun a ha b hb => ?_⟩
    obtain ⟨y, hy, rfl⟩ := List.mem_map.1 ha
    have : b = x.name := by simpa using hb
    subst this
    exact hd y hy
theorem take_getD {es : List Er} {i : Nat} {y : Er} (h : y ∈ es.take i) : ∃ q, q < i ∧ es.getD q default = y := by
  obtain ⟨q, hq, rfl⟩ := List.mem_iff_getElem.1 h
  rw [List.length_take] at hq
  refine ⟨q, by omega, ?_⟩
  rw [List.getD_eq_getElem?_getD, List.getElem?_eq_getElem (by omega)]
  simp
theorem not_nodup {es : List Er} {k i : Nat} (hki : k < i) (hi : i < es.length) (he : (es.getD k default).name = (es.getD i default).name) : ¬ okL es := fun h => by
  have := List.pairwise_iff_getElem.1 h.2 k i (by rw [List.length_map]; omega) (by rw [List.length_map]; exact hi) hki
  rw [List.getD_eq_getElem?_getD, List.getD_eq_getElem?_getD, List.getElem?_eq_getElem (by omega), List.getElem?_eq_getElem hi] at he
  exact this (by simpa using he)
set_option maxRecDepth 20000 in
set_option maxHeartbeats 8000000 in
theorem writeTreeR_any (a : Option Addr) (cap : Nat) (es : List Er) (hwf : WfE es) (hn : es.length ≤ 1000) (w : World) (hP : Pe w a cap es) :
    Calls Tryz.prog 20 #[.slice a es.length cap] w (PostWR es w) := by
  obtain ⟨n, HN⟩ : ∃ n, Hid (es.length = n) := ⟨_, rfl⟩
  obtain ⟨G, HG⟩ : ∃ G, Hid (w.heap.size = G) := ⟨_, rfl⟩
  have hnn : n ≤ 1000 := by rw [← HN.out]; exact hn
  have hnI : ¬ (2000 : Int) < (n : Int) := by omega
  have HPA : Hid (∀ W, Below G w W → Pe W a cap es) := fun W hW => hP.below (by rw [HG.out]; exact hW)
  have HPL : Hid (0 < n → ∃ b off, a = some ⟨b, off, none⟩ ∧ b < G) := fun h0 => by
    obtain ⟨b, off, e1, e2, _⟩ := hP.at_ (by rw [HN.out]; exact h0)
    exact ⟨b, off, e1, by rw [← HG.out]; exact e2⟩
  have HCE : Hid (∀ b off, a = some ⟨b, off, none⟩ → ∀ W, Below G w W → ∀ i, i < n → W.cell? ⟨b, off + i * 22, none⟩ = some (.int .i64 (es.getD i default).mode) ∧ W.cell? ⟨b, off + i * 22 + 1, none⟩ = some (.string ⟨(es.getD i default).name.toArray⟩)) := fun b off hae W hW i hi => by
    obtain ⟨b', off', e1, e2, e3⟩ := (HPA.out W hW).at_ (by rw [HN.out]; omega)
    rw [hae] at e1
    cases e1
    have hr := e3 i (by rw [HN.out]; exact hi)
    exact ⟨by simpa using hr 0 _ rfl, by simpa using hr 1 _ rfl⟩
  have HWF : Hid (WfE es) := hwf
  have C50 : Hid (okL es → ∀ W, Below G w W → Calls Tryz.prog 50 #[.slice a n cap] W fun e w' => Below W.heap.size W w' ∧ ∃ a' cap', e = .returned (.slice a' n cap') ∧ Pe w' a' cap' (srtE es)) := fun hok W hW => by
    have := sorted_any a cap es (fun x hx => (hwf x hx).1) (fun x hx => by have := (hok.1 x hx).2.2.1; omega) hn W (HPA.out W hW)
    rw [HN.out] at this
    exact this
  have HB0 : Hid (Below G w w) := Below.refl _ _
  have HGS : Hid (G ≤ w.heap.size) := hid (by rw [HG.out]; exact Nat.le_refl _)
  have BAD : Hid (¬ okL es → ∀ W, Below G w W → PostWR es w (.returned (.tuple #[.slice none 0 0, .int .i64 21])) W) := fun h W hW => ⟨by rw [HG.out]; exact hW, .inr ⟨h, rfl⟩⟩
  rw [HN.out]
  clear hP hwf
  go_enter Tryz.func20, Tryz.ntmps20
  go_wp2_with fail
  go_loopg [4] n (fun g iv wr => ∃ i : Nat, i ≤ n ∧ g = n - i ∧ iv = .int .i64 i ∧ Hid (Below G w wr) ∧ Hid (okL (es.take i)))
  case atStart => exact ⟨0, Nat.zero_le _, rfl, rfl, HB0, hid ⟨by simp, by simp⟩⟩
  case round =>
    obtain ⟨i, hi, hk, rfl, HB, HOI⟩ := hrel
    by_cases hlt : i < n
    · have hlti : (i : Int) < (n : Int) := by omega
      obtain ⟨b, off, hae, hbG⟩ := HPL.out (by omega)
      obtain ⟨x, HX⟩ : ∃ x, Hid (es.getD i default = x) := ⟨_, rfl⟩
      have hxm : x ∈ es := by
        rw [← HX.out, List.getD_eq_getElem?_getD, List.getElem?_eq_getElem (by rw [HN.out]; exact hlt)]
        exact List.getElem_mem _
      have HXM : Hid (x ∈ es) := hxm
      obtain ⟨S, HS⟩ : ∃ S : ByteArray, Hid ((⟨x.name.toArray⟩ : ByteArray) = S) := ⟨_, rfl⟩
      obtain ⟨m, HM⟩ : ∃ m, Hid (x.mode = m) := ⟨_, rfl⟩
      obtain ⟨O, HO⟩ : ∃ S : ByteArray, Hid ((⟨(octB m).toArray⟩ : ByteArray) = S) := ⟨_, rfl⟩
      have HC : Hid (∀ W, Below G w W → W.cell? ⟨b, off + i * 22, none⟩ = some (.int .i64 m) ∧ W.cell? ⟨b, off + i * 22 + 1, none⟩ = some (.string S)) := fun W hW => by
        have := HCE.out b off hae W hW i hlt
        rw [HX.out, HM.out, HS.out] at this
        exact this
      have HCK : Hid (∀ W, Below G w W → ∀ k, k < n → W.cell? ⟨b, off + k * 22 + 1, none⟩ = some (.string ⟨(es.getD k default).name.toArray⟩)) := fun W hW k hk => (HCE.out b off hae W hW k hk).2
      subst hae
      have c0 := (HC.out wr HB.out).1
      have c1 := (HC.out wr HB.out).2
      have HTS : Hid (es.take (i + 1) = es.take i ++ [x]) := hid (by rw [take_snocE es i (by rw [HN.out]; exact hlt), HX.out])
      have C49 : Hid (∀ W, Calls Tryz.prog 49 #[.int .i64 m] W fun e w' => e = .returned (.string O) ∧ w' = W) := fun W => by rw [← HO.out]; exact octal_any m W
      have HOE : Hid (O.toList.isEmpty = (octB m).isEmpty) := hid (by rw [← HO.out, Lib.toList_data])
      clear hxm
      by_cases he : okE x.name
      · have C48 : Hid (∀ W, Calls Tryz.prog 48 #[.string S] W fun e w' => e = .returned (.bool true) ∧ w' = W) := fun W => by
          rw [← HS.out]
          refine (isName_any x.name W).mono ?_
          rintro e w' ⟨hb, h2⟩
          rcases bis_or hb with ⟨_, rfl⟩ | ⟨h, _⟩
          · exact ⟨rfl, h2⟩
          · exact absurd he h
        have HE : Hid (okE x.name) := he
        clear he
        by_cases hm : okM m
        · have hoe : O.toList.isEmpty = false := by
            rw [HOE.out]
            cases h : octB m with
            | nil => exact absurd hm ((octB_nil m).1 h)
            | cons p q => rfl
          have HMM : Hid (okM x.mode) := hid (by rw [HM.out]; exact hm)
          clear hm
          go_wp2_with (first
            | (go_at_call 48; refine (C48.out _).mono ?_; rintro ev w3 ⟨rfl, rfl⟩)
            | (go_at_call 49; refine (C49.out _).mono ?_; rintro ev w3 ⟨rfl, rfl⟩)
            | fail)
          go_loopg [6] i (fun g kv wq => ∃ k : Nat, k ≤ i ∧ g = i - k ∧ kv = .int .i64 k ∧ Hid (Below G w wq) ∧ Hid (∀ q, q < k → (es.getD q default).name ≠ x.name))
          case atStart => exact ⟨0, Nat.zero_le _, rfl, rfl, HB, hid (fun q hq => absurd hq (Nat.not_lt_zero _))⟩
          case round =>
            obtain ⟨k, hki, hkg, rfl, HBk, HNE⟩ := hrel
            by_cases hkl : k < i
            · have hkli : (k : Int) < (i : Int) := by omega
              have hkn : (k : Int) < (n : Int) := by omega
              obtain ⟨SY, HSY⟩ : ∃ S : ByteArray, Hid ((⟨(es.getD k default).name.toArray⟩ : ByteArray) = S) := ⟨_, rfl⟩
              have d1 : wr.cell? ⟨b, off + i * 22 + 1, none⟩ = some (.string S) := (HC.out wr HBk.out).2
              have d2 : wr.cell? ⟨b, off + k * 22 + 1, none⟩ = some (.string SY) := by rw [← HSY.out]; exact HCK.out wr HBk.out k (by omega)
              obtain ⟨bq, HBQ⟩ : ∃ bq : Bool, (SY.toList == S.toList) = bq := ⟨_, rfl⟩
              have HEQ : Hid (bq = true ↔ (es.getD k default).name = x.name) := hid (by
                rw [← HBQ, ← HSY.out, ← HS.out, Lib.toList_data, Lib.toList_data]
                simp)
              clear c0 c1
              go_wp2_with fail
              go_quiet (fail)
              have HBd : Hid (Below G w (wr.drewN nq)) := hid (below_drewH HBk.out nq)
              generalize wr.drewN nq = WQ at HBd ⊢
              cases bq with
              | true =>
                have HNO : Hid (¬ okL es) := hid (not_nodup hkl (by rw [HN.out]; exact hlt) (by rw [HX.out]; exact HEQ.out.1 rfl))
                go_wp2
                go_ret2
                exact BAD.out HNO.out _ HBd.out
              | false =>
                go_wp2
                go_roundg (i - (k + 1))
                case measure => omega
                case rel =>
                  refine ⟨k + 1, by omega, rfl, by go_num, HBd, hid (fun q hq => ?_)⟩
                  by_cases hqk : q < k
                  · exact HNE.out q hqk
                  · have : q = k := by omega
                    subst this
                    intro h
                    have := HEQ.out.2 h
                    cases this
            · have hkli : ¬ (k : Int) < (i : Int) := by omega
              have HOK1 : Hid (okL (es.take (i + 1))) := hid (okL_snoc HOI.out HTS.out HMM.out HE.out (fun y hy => by
                obtain ⟨q, hq, rfl⟩ := take_getD hy
                exact HNE.out q (by omega)))
              clear c0 c1
              go_wp2
              go_roundg (n - (i + 1))
              case measure => omega
              case rel => exact ⟨i + 1, by omega, rfl, by go_num, HBk, HOK1⟩
        · have hoe : O.toList.isEmpty = true := by rw [HOE.out, (octB_nil m).2 hm]; rfl
          have HNO : Hid (¬ okL es) := fun h => hm (by rw [← HM.out]; exact (h.1 x HXM.out).1)
          clear hm
          go_wp2_with (first
            | (go_at_call 48; refine (C48.out _).mono ?_; rintro ev w3 ⟨rfl, rfl⟩)
            | (go_at_call 49; refine (C49.out _).mono ?_; rintro ev w3 ⟨rfl, rfl⟩)
            | fail)
          go_ret2
          exact BAD.out HNO.out _ HB.out
      · have C48 : Hid (∀ W, Calls Tryz.prog 48 #[.string S] W fun e w' => e = .returned (.bool false) ∧ w' = W) := fun W => by
          rw [← HS.out]
          refine (isName_any x.name W).mono ?_
          rintro e w' ⟨hb, h2⟩
          rcases bis_or hb with ⟨h, _⟩ | ⟨_, rfl⟩
          · exact absurd h he
          · exact ⟨rfl, h2⟩
        have HNO : Hid (¬ okL es) := fun h => he (h.1 x HXM.out).2
        clear he
        go_wp2_with (first
          | (go_at_call 48; refine (C48.out _).mono ?_; rintro ev w3 ⟨rfl, rfl⟩)
          | fail)
        go_ret2
        exact BAD.out HNO.out _ HB.out
    · have hlti : ¬ (i : Int) < (n : Int) := by omega
      have HOK : Hid (okL es) := hid (by
        have := HOI.out
        rw [List.take_of_length_le (by rw [HN.out]; omega)] at this
        exact this)
      clear HOI
      go_wp2_with fail
      refine (C50.out HOK.out wr HB.out).mono ?_
      rintro ev w2 ⟨hb2, a1, cap1, rfl, hpe⟩
      have HPE2 : Hid (Pe w2 a1 cap1 (srtE es)) := hpe
      have HB2 : Hid (Below G w w2) := HB.out.trans (hb2.mono (Nat.le_trans HGS.out HB.out.size))
      clear hpe hb2
      obtain ⟨L, HL⟩ : ∃ L, Hid (srtE es = L) := ⟨_, rfl⟩
      obtain ⟨H, HH⟩ : ∃ H, Hid (w2.heap.size = H) := ⟨_, rfl⟩
      have HPM : Hid (L.Perm es) := hid (by rw [← HL.out]; exact srtE_perm es)
      have HLN : Hid (L.length = n) := hid (by rw [HPM.out.length_eq]; exact HN.out)
      have HLX : Hid (∀ x ∈ L, okM x.mode ∧ okE x.name ∧ x.id.length = 20 ∧ ∀ k ∈ x.id, 0 ≤ k ∧ k < 256) := fun x hx => by
        have hx' := HPM.out.subset hx
        exact ⟨(HOK.out.1 x hx').1, (HOK.out.1 x hx').2, HWF.out x hx'⟩
      have HPB : Hid (0 < n → ∃ b off, a1 = some ⟨b, off, none⟩ ∧ b < H) := fun h0 => by
        obtain ⟨b, off, e1, e2, _⟩ := HPE2.out.at_ (by rw [HL.out, HLN.out]; exact h0)
        exact ⟨b, off, e1, by rw [← HH.out]; exact e2⟩
      have HRL : Hid (∀ b off, a1 = some ⟨b, off, none⟩ → ∀ W, Below H w2 W → ∀ i, i < n → W.rangeAt b (off + i * 22) (erV (L.getD i default)) ∧ b < W.heap.size) := fun b off hae W hW i hi => by
        obtain ⟨b', off', e1, e2, e3⟩ := (HPE2.out.below (by rw [HH.out]; exact hW)).at_ (by rw [HL.out, HLN.out]; omega)
        rw [hae] at e1
        cases e1
        rw [HL.out] at e3
        exact ⟨e3 i (by rw [HLN.out]; exact hi), e2⟩
      have HGH : Hid (G ≤ H) := hid (by rw [← HH.out]; exact Nat.le_trans HGS.out HB2.out.size)
      have HTL : Hid (∀ i, (treeB (L.take i)).length ≤ 78000) := fun i => by
        have h1 := treeB_len (L.take i) (fun x hx => by
          have := HLX.out x (List.mem_of_mem_take hx)
          exact ⟨this.2.1.2.1, this.2.2.1⟩)
        have h2 : (L.take i).length ≤ 1000 := by rw [List.length_take, HLN.out]; omega
        omega
      go_wp2_with fail
      go_loopg [7, 9] n (fun g u iv wq => ∃ (i : Nat) (v : Value), v = u ∧ i ≤ n ∧ g = n - i ∧ iv = .int .i64 i ∧ Hid (Bd w2 wq H v (nums (treeB (L.take i)))))
      case atStart => exact ⟨0, _, rfl, Nat.zero_le _, rfl, rfl, hid (bd_nil w2 H (by rw [HH.out]; exact Nat.le_refl _))⟩
      case round =>
        obtain ⟨p, v, hv, hp, hkp, rfl, HBD⟩ := hrel
        subst hv
        by_cases hplt : p < n
        · have hplti : (p : Int) < (n : Int) := by omega
          obtain ⟨b2, off2, hae, hbH⟩ := HPB.out (by omega)
          obtain ⟨x, HX⟩ : ∃ x, Hid (L.getD p default = x) := ⟨_, rfl⟩
          have hxm : x ∈ L := by
            rw [← HX.out, List.getD_eq_getElem?_getD, List.getElem?_eq_getElem (by rw [HLN.out]; exact hplt)]
            exact List.getElem_mem _
          have HXO : Hid (okM x.mode ∧ okE x.name ∧ x.id.length = 20 ∧ ∀ k ∈ x.id, 0 ≤ k ∧ k < 256) := hid (HLX.out x hxm)
          have hx20 := HXO.out.2.2.1
          obtain ⟨S, HS⟩ : ∃ S : ByteArray, Hid ((⟨x.name.toArray⟩ : ByteArray) = S) := ⟨_, rfl⟩
          obtain ⟨m, HM⟩ : ∃ m, Hid (x.mode = m) := ⟨_, rfl⟩
          obtain ⟨nm, HNM2⟩ : ∃ l, Hid (x.name = l) := ⟨_, rfl⟩
          obtain ⟨oc, HOC⟩ : ∃ l, Hid (octB m = l) := ⟨_, rfl⟩
          have HR : Hid (∀ W, Below H w2 W → W.rangeAt b2 (off2 + p * 22) (erV x) ∧ b2 < W.heap.size) := fun W hW => by
            rw [← HX.out]; exact HRL.out b2 off2 hae W hW p hplt
          have HCM : Hid (∀ W, Below H w2 W → W.cell? ⟨b2, off2 + p * 22, none⟩ = some (.int .i64 m)) := fun W hW => by
            rw [← HM.out]; simpa using (HR.out W hW).1 0 _ rfl
          have HCN : Hid (∀ W, Below H w2 W → W.cell? ⟨b2, off2 + p * 22 + 1, none⟩ = some (.string ⟨nm.toArray⟩)) := fun W hW => by
            rw [← HNM2.out]; simpa using (HR.out W hW).1 1 _ rfl
          have C49 : Hid (∀ W, Calls Tryz.prog 49 #[.int .i64 m] W fun e w' => e = .returned (.string ⟨oc.toArray⟩) ∧ w' = W) := fun W => by rw [← HOC.out]; exact octal_any m W
          have e0 := HCM.out _ HBD.out.below
          obtain ⟨o0, HO0⟩ : ∃ o, Hid (nums (treeB (L.take p)) = o) := ⟨_, rfl⟩
          have hl0 : o0.length ≤ 78000 := by rw [← HO0.out, nums_len]; exact HTL.out p
          have hl1 : oc.length ≤ 6 := by rw [← HOC.out]; exact octB_len m
          have hl2 : nm.length ≤ 50 := by rw [← HNM2.out]; exact HXO.out.2.1.2.1
          rw [HO0.out] at HBD
          have hq1 : o0.length + oc.length ≤ 1000000 := by omega
          have hq2 : (o0 ++ nums oc).length + [(32 : Int)].length ≤ 1000000 := by rw [List.length_append, nums_len]; simp; omega
          have hq3 : ((o0 ++ nums oc) ++ [32]).length + nm.length ≤ 1000000 := by rw [List.length_append, List.length_append, nums_len]; simp; omega
          have hq4 : (((o0 ++ nums oc) ++ [32]) ++ nums nm).length + [(0 : Int)].length ≤ 1000000 := by rw [List.length_append, List.length_append, List.length_append, nums_len, nums_len]; simp; omega
          have hq5 : ((((o0 ++ nums oc) ++ [32]) ++ nums nm) ++ [0]).length + x.id.length ≤ 1000000 := by rw [List.length_append, List.length_append, List.length_append, List.length_append, nums_len, nums_len]; simp; omega
          subst hae
          clear hxm
          go_wp2_with (first
            | (go_at_call 49; refine (C49.out _).mono ?_; rintro ev w3 ⟨rfl, rfl⟩)
            | (at_builtin; refine wpList_bd_str rfl _ _ rfl H _ _ rfl HBD.out oc rfl hq1 ?_; intro v1 w1 hbd1; have HBD1 : Hid (Bd w2 w1 H v1 (o0 ++ nums oc)) := hbd1; clear hbd1)
            | (at_builtin; refine wpList_bd_sl rfl _ _ rfl H _ _ rfl (HBD1.out.alloc _) _ _ [32] rfl (sl_one _ _) hq2 ?_; intro v3 w3 hbd3; have HBD3 : Hid (Bd w2 w3 H v3 ((o0 ++ nums oc) ++ [32])) := hbd3; clear hbd3; have e3 := HCN.out _ HBD3.out.below)
            | (at_builtin; refine wpList_bd_str rfl _ _ rfl H _ _ rfl HBD3.out nm rfl hq3 ?_; intro v4 w4 hbd4; have HBD4 : Hid (Bd w2 w4 H v4 (((o0 ++ nums oc) ++ [32]) ++ nums nm)) := hbd4; clear hbd4 e3)
            | (at_builtin; refine wpList_bd_sl rfl _ _ rfl H _ _ rfl (HBD4.out.alloc _) _ _ [0] rfl (sl_one _ _) hq4 ?_; intro v5 w5 hbd5; have HBD5 : Hid (Bd w2 w5 H v5 ((((o0 ++ nums oc) ++ [32]) ++ nums nm) ++ [0])) := hbd5; clear hbd5)
            | (at_builtin; refine wpList_bd_sl rfl _ _ rfl H _ _ rfl HBD5.out (some ⟨b2, off2 + p * 22 + 2, none⟩) 20 x.id (by rw [hx20]; rfl) (id_sl2 (HR.out _ HBD5.out.below).1 (HR.out _ HBD5.out.below).2 hx20) hq5 ?_; intro v6 w6 hbd6; have HBD6 : Hid (Bd w2 w6 H v6 (((((o0 ++ nums oc) ++ [32]) ++ nums nm) ++ [0]) ++ x.id)) := hbd6; clear hbd6)
            | fail)
          go_roundg (n - (p + 1))
          case measure => omega
          case rel =>
            refine ⟨p + 1, _, rfl, by omega, rfl, by go_num, hid ?_⟩
            have h6 := HBD6.out
            rw [← HOC.out, ← HNM2.out, ← HM.out, er_outR o0 x HXO.out.2.2.2, ← HO0.out, ← nums_app, ← treeB_snoc, ← HX.out, ← take_snocE L p (by rw [HLN.out]; exact hplt)] at h6
            exact h6
        · have hplti : ¬ (p : Int) < (n : Int) := by omega
          have htk : L.take p = L := List.take_of_length_le (by rw [HLN.out]; omega)
          have HBE : Hid (Bd w2 wr H v (nums (treeB L))) := hid (by have := HBD.out; rw [htk] at this; exact this)
          obtain ⟨a9, c9, rfl, hsl⟩ := HBE.out.sl
          have HSL : Hid (Sl wr a9 c9 (nums (treeB L))) := hsl
          have HBZ : Hid (Below G w wr) := hid (HB2.out.trans (HBE.out.below.mono HGH.out))
          clear htk hsl
          go_wp2
          go_ret2
          refine ⟨by rw [HG.out]; exact HBZ.out, .inl ⟨HOK.out, a9, c9, ?_, ?_⟩⟩
          · rw [HL.out, ← nums_len (treeB L)]; rfl
          · rw [HL.out]; exact HSL.out
end Go.Proofs.YtenbdeljblmbhaaGreatDoor
/- 'strconv.ParseInt' at base 8, 32 bits; package object: 'modeOf'. -/
namespace Go.Proofs.YtenbdeljblmbhaaGreatDoor
open Go.RowKit Go.Shelf
set_option linter.unusedVariables false
set_option linter.unusedSimpArgs false
/-- Octal digits, as far as they are a number of 32 bits. -/
def oct8 : Nat → List UInt8 → Option Nat
  | acc, [] => some acc
  | acc, c :: t => if 48 ≤ c.toNat ∧ c.toNat ≤ 55 ∧ acc * 8 + (c.toNat - 48) ≤ 4294967295 then oct8 (acc * 8 + (c.toNat - 48)) t else none
/-- What is asked of them. -/
def PU (l : List UInt8) (e : Ending) : Prop := ∃ (v : Int) (ev : Value), e = .returned (.tuple #[.int .u64 v, ev]) ∧ 0 ≤ v ∧ v ≤ 4294967295 ∧ (ev = .nilIface ∨ ev = .iface 289 (.int .i64 1) ∨ ev = .iface 289 (.int .i64 2)) ∧ (∀ r, l ≠ [] → oct8 0 l = some r → v = r ∧ ev = .nilIface)
theorem PU.bad1 {l : List UInt8} (h : l = [] ∨ oct8 0 l = none) (v : Int) (h0 : 0 ≤ v) (h1 : v ≤ 4294967295) : PU l (.returned (.tuple #[.int .u64 v, .iface 289 (.int .i64 1)])) :=
  ⟨v, _, rfl, h0, h1, .inr (.inl rfl), fun r hn hr => by
    rcases h with h | h
    · exact absurd h hn
    · rw [h] at hr; cases hr⟩
theorem PU.bad2 {l : List UInt8} (h : l = [] ∨ oct8 0 l = none) : PU l (.returned (.tuple #[.int .u64 0, .iface 289 (.int .i64 2)])) :=
  ⟨0, _, rfl, by decide, by decide, .inr (.inr rfl), fun r hn hr => by
    rcases h with h | h
    · exact absurd h hn
    · rw [h] at hr; cases hr⟩
theorem lower_any (c : Int) (w : World) : Calls Tryz.prog 230 #[.int .u8 c] w fun e w' => e = .returned (.int .u8 (bits .or .u8 c 32)) ∧ w' = w := by
  go_enter Tryz.func230, Tryz.ntmps230
  go_wp2
  go_ret
  exact ⟨rfl, rfl⟩
set_option maxHeartbeats 8000000 in
set_option maxRecDepth 100000 in
theorem parseUint8 (l : List UInt8) (hl : l.length ≤ 1000000) (w : World) :
    Calls Tryz.prog 222 #[.string ⟨l.toArray⟩, .int .i64 8, .int .i64 32] w fun e w' => PU l e ∧ Below w.heap.size w w' := by
  by_cases hne : l = []
  · subst hne
    have HB : Hid (Below w.heap.size w w) := Below.refl _ _
    go_enter Tryz.func222, Tryz.ntmps222
    go_wp2
    go_ret2
    exact ⟨PU.bad2 (.inl rfl), HB.out⟩
  · obtain ⟨S, HS⟩ : ∃ S : ByteArray, Hid (S = ⟨l.toArray⟩) := ⟨_, rfl⟩
    obtain ⟨n, HN⟩ : ∃ n, Hid (l.length = n) := ⟨_, rfl⟩
    have hn : n ≤ 1000000 := by rw [← HN.out]; exact hl
    have hemp : S.toList.isEmpty = false := by
      rw [HS.out, Lib.toList_data]
      simpa using hne
    obtain ⟨cap, w1, hcv, hmk, hb1, _⟩ := conv_mk l w
    rw [← HS.out, HN.out] at hcv
    have HB1 : Hid (Below w.heap.size w w1) := hb1
    have HM : Hid (Mk w1 w.heap.size cap (nums l)) := hmk
    have hmv : IntKind.u64.wrap (IntKind.u64.wrap 4294967296 - 1) = 4294967295 := by
      rw [IntKind.wrap_u64, IntKind.wrap_u64]
      decide
    rw [← HS.out]
    clear hmk hb1
    go_enter Tryz.func222, Tryz.ntmps222
    go_wp2
    go_loop [12, 13, 101] (fun vu vn vi => ∃ (k acc : Nat) (a : Int), vu = .bool false ∧ vn = .int .u64 a ∧ vi = .int .i64 k ∧ k ≤ n ∧ Hid (a = (acc : Int) ∧ acc ≤ 4294967295 ∧ oct8 0 l = oct8 acc (l.drop k)))
      (fun _ _ vi => n - (intOf vi).toNat)
    case atStart => exact ⟨0, 0, 0, rfl, rfl, rfl, by omega, rfl, by omega, rfl⟩
    case round =>
      obtain ⟨k, acc, a, rfl, rfl, rfl, hk, hh⟩ := hrel
      obtain ⟨ha, hacc, hdec⟩ := hh.out
      clear hh
      have a0 : 0 ≤ a := by omega
      have a1 : a ≤ 4294967295 := by omega
      by_cases hkn : k < n
      · have hkl : k < l.length := by rw [HN.out]; exact hkn
        have hdrop : l.drop k = l[k]'hkl :: l.drop (k + 1) := List.drop_eq_getElem_cons hkl
        have hc : w1.cell? ⟨w.heap.size, k, none⟩ = some (.int .u8 ((l[k]'hkl).toNat : Int)) := by
          have := HM.out.at_ k (by rw [nums_len]; exact hkl)
          rw [Nat.zero_add] at this
          rw [this]
          simp [nums, List.getD_eq_getElem?_getD, List.getElem?_eq_getElem hkl]
        rw [hdrop] at hdec
        generalize l[k]'hkl = c at hc hdec
        have hc256 : c.toNat < 256 := c.toNat_lt
        clear hdrop
        by_cases hdig : 48 ≤ c.toNat ∧ c.toNat ≤ 55
        · obtain ⟨hd0, hd1⟩ := hdig
          by_cases hov : 4294967295 < acc * 8 + (c.toNat - 48)
          · have hF : oct8 0 l = none := by rw [hdec]; simp only [oct8]; rw [if_neg (by omega)]
            have HP : Hid (PU l (.returned (.tuple #[.int .u64 4294967295, .iface 289 (.int .i64 1)]))) := hid (PU.bad1 (.inr hF) _ (by decide) (by decide))
            have iov : 4294967295 < a * 8 + ((c.toNat : Int) - 48) := by omega
            clear hacc hF hov ha hdec
            go_wp2
            go_ret2
            exact ⟨HP.out, HB1.out⟩
          · have HN2 : Hid (a * 8 + ((c.toNat : Int) - 48) = ((acc * 8 + (c.toNat - 48) : Nat) : Int) ∧ acc * 8 + (c.toNat - 48) ≤ 4294967295 ∧ oct8 0 l = oct8 (acc * 8 + (c.toNat - 48)) (l.drop (k + 1))) := hid ⟨by omega, by omega, by
              rw [hdec]; simp only [oct8]; rw [if_pos (by omega)]⟩
            have iov : a * 8 + ((c.toNat : Int) - 48) ≤ 4294967295 := by omega
            clear hacc hov hdec ha
            go_wp2
            refine ⟨⟨k + 1, acc * 8 + (c.toNat - 48), a * 8 + ((c.toNat : Int) - 48), rfl, (by first | rfl | (congr 1; omega)), (by first | rfl | (congr 1; omega)), by omega, HN2⟩, by simp [intOf]; omega⟩
        · have hF : oct8 0 l = none := by rw [hdec]; simp only [oct8]; rw [if_neg (by omega)]
          have HP : Hid (PU l (.returned (.tuple #[.int .u64 0, .iface 289 (.int .i64 2)]))) := hid (PU.bad2 (.inr hF))
          clear hacc hF ha hdec
          have hv0 := bits_lo_u8 .or (c.toNat : Int) 32
          have hv1 := bits_hi_u8 .or (c.toNat : Int) 32
          have hu0 := bits_lo_u8 .or 95 32
          have hu1 := bits_hi_u8 .or 95 32
          go_wp2_with (go_at_call 230; refine (lower_any _ _).mono ?_; rintro e w' ⟨rfl, rfl⟩)
          all_goals go_ret2
          all_goals exact ⟨HP.out, HB1.out⟩
      · have hkk : k = n := by omega
        subst hkk
        have hF : oct8 0 l = some acc := by rw [hdec, List.drop_eq_nil_of_le (by rw [HN.out]; exact Nat.le_refl _)]; rfl
        have HP : Hid (PU l (.returned (.tuple #[.int .u64 a, .nilIface]))) := hid ⟨a, _, rfl, a0, a1, .inl rfl, fun r _ hr => by
          rw [hF] at hr
          cases hr
          exact ⟨ha, rfl⟩⟩
        clear hacc hF hdec ha
        go_wp2
        go_ret2
        exact ⟨HP.out, HB1.out⟩
end Go.Proofs.YtenbdeljblmbhaaGreatDoor
/- 'strconv.ParseInt' at base 8, 32 bits; package object: 'modeOf'. -/
namespace Go.Proofs.YtenbdeljblmbhaaGreatDoor
open Go.RowKit Go.Shelf
set_option linter.unusedVariables false
set_option linter.unusedSimpArgs false
/-- A mode's digits are read as that mode. -/
def PI (l : List UInt8) (e : Ending) : Prop := ∃ (v : Int) (ev : Value), e = .returned (.tuple #[.int .i64 v, ev]) ∧ (ev = .nilIface ∨ ev = .iface 289 (.int .i64 1) ∨ ev = .iface 289 (.int .i64 2)) ∧ (∀ m, okM m → l = octB m → v = m ∧ ev = .nilIface)
theorem oct_read (m : Int) (h : okM m) : octB m ≠ [] ∧ oct8 0 (octB m) = some m.toNat ∧ 0 ≤ m ∧ m < 65536 ∧ ∀ c t, octB m = c :: t → c ≠ 43 ∧ c ≠ 45 := by
  rcases h with rfl | rfl | rfl | rfl
  all_goals
    refine ⟨by decide, by decide, by decide, by decide, ?_⟩
    intro c t h
    rw [show octB _ = _ from rfl] at h
    revert h
    simp only [octB]
    simp
    rintro rfl _
    decide
theorem neq_range (w : World) : (binOp .neq 28 (.iface 289 (.int .i64 1)) (.iface 289 (.int .i64 1))).run Tryz.prog w = .ok (.bool false) w := by kernel_rfl
theorem neq_syntax (w : World) : (binOp .neq 28 (.iface 289 (.int .i64 2)) (.iface 289 (.int .i64 1))).run Tryz.prog w = .ok (.bool true) w := by kernel_rfl
set_option maxHeartbeats 4000000 in
set_option maxRecDepth 100000 in
theorem parseInt8 (l : List UInt8) (hl : l.length ≤ 1000000) (w : World) :
    Calls Tryz.prog 207 #[.string ⟨l.toArray⟩, .int .i64 8, .int .i64 32] w fun e w' => PI l e ∧ Below w.heap.size w w' := by
  match l, hl with
  | [], _ =>
    have HB : Hid (Below w.heap.size w w) := Below.refl _ _
    have HP : Hid (PI [] (.returned (.tuple #[.int .i64 0, .iface 289 (.int .i64 2)]))) := ⟨0, _, rfl, .inr (.inr rfl), fun m hm h => absurd h.symm (oct_read m hm).1⟩
    go_enter Tryz.func207, Tryz.ntmps207
    go_wp2
    go_ret2
    exact ⟨HP.out, HB.out⟩
  | c :: t, hl =>
    obtain ⟨l, HL⟩ : ∃ l, Hid (c :: t = l) := ⟨_, rfl⟩
    have hemp : (⟨l.toArray⟩ : ByteArray).toList.isEmpty = false := by rw [Lib.toList_data, ← HL.out]; rfl
    have hix0 : ∀ w1 : World, (Instr.index 9 (.string ⟨l.toArray⟩) (.int .i64 0)).run Tryz.prog w1 = .ok (.int .u8 (c.toNat : Int)) w1 := fun w1 => by
      rw [← HL.out]
      exact index_txt (c :: t) 0 w1 c rfl
    have hsl : ∀ w1 : World, (Instr.slice 9 (.string ⟨l.toArray⟩) (some (.int .i64 1)) none none).run Tryz.prog w1 = .ok (.string ⟨t.toArray⟩) w1 := fun w1 => by
      rw [← HL.out]
      exact slice_from (c :: t) 1 (by simp) w1
    obtain ⟨S, HS⟩ : ∃ S : ByteArray, Hid (⟨l.toArray⟩ = S) := ⟨_, rfl⟩
    obtain ⟨T, HT⟩ : ∃ T : ByteArray, Hid (⟨t.toArray⟩ = T) := ⟨_, rfl⟩
    have CS : Hid (∀ w, Calls Tryz.prog 222 #[.string S, .int .i64 8, .int .i64 32] w fun e w' => PU l e ∧ Below w.heap.size w w') := fun w => by
      rw [← HS.out]; exact parseUint8 l (by rw [← HL.out]; exact hl) w
    have CT : Hid (∀ w, Calls Tryz.prog 222 #[.string T, .int .i64 8, .int .i64 32] w fun e w' => PU t e ∧ Below w.heap.size w w') := fun w => by
      rw [← HT.out]; exact parseUint8 t (by simp at hl; omega) w
    obtain ⟨x, HX⟩ : ∃ x : Int, Hid ((c.toNat : Int) = x) := ⟨_, rfl⟩
    have hx : 0 ≤ x ∧ x < 256 := by rw [← HX.out]; have := c.toNat_lt; omega
    have HM : Hid (∀ m, okM m → l = octB m → x ≠ 43 ∧ x ≠ 45) := fun m hm h => by
      rw [← HL.out] at h
      have h2 := (oct_read m hm).2.2.2.2 c t h.symm
      rw [← HX.out]
      exact ⟨fun e => h2.1 (UInt8.toNat_inj.1 (by show c.toNat = 43; omega)), fun e => h2.2 (UInt8.toNat_inj.1 (by show c.toNat = 45; omega))⟩
    have hcut : IntKind.u64.wrap (IntKind.u64.wrap 2147483648 - 1) = 2147483647 := by
      rw [IntKind.wrap_u64, IntKind.wrap_u64]
      decide
    have hq1 := neq_range
    have hq2 := neq_syntax
    rw [HL.out]
    rw [HS.out, HX.out] at hix0
    rw [HS.out, HT.out] at hsl
    rw [HS.out] at hemp
    rw [HS.out]
    by_cases h43 : x = 43
    · subst h43
      have HNO : Hid (∀ m, okM m → l ≠ octB m) := fun m hm h => (HM.out m hm h).1 rfl
      clear hx
      go_enter Tryz.func207, Tryz.ntmps207
      go_wp2_with fail
      refine (CT.out w).mono ?_
      rintro ev w1 ⟨⟨v, er, rfl, h0, h1, hor, _⟩, hb⟩
      have HB : Hid (Below w.heap.size w w1) := hb
      have HP : Hid (∀ (v : Int) (ev : Value), (ev = .nilIface ∨ ev = .iface 289 (.int .i64 1) ∨ ev = .iface 289 (.int .i64 2)) → PI l (.returned (.tuple #[.int .i64 v, ev]))) := fun v ev h => ⟨v, ev, rfl, h, fun m hm e => absurd e (HNO.out m hm)⟩
      clear hb
      by_cases hv : v < 2147483648
      · have hv2 : ¬ 2147483648 ≤ v := by omega
        rcases hor with rfl | rfl | rfl
        all_goals
          go_wp2
          go_ret2
          exact ⟨HP.out _ _ (by simp), HB.out⟩
      · have hv2 : 2147483648 ≤ v := by omega
        rcases hor with rfl | rfl | rfl
        all_goals
          go_wp2
          go_ret2
          exact ⟨HP.out _ _ (by simp), HB.out⟩
    · by_cases h45 : x = 45
      · subst h45
        have HNO : Hid (∀ m, okM m → l ≠ octB m) := fun m hm h => (HM.out m hm h).2 rfl
        clear hx
        go_enter Tryz.func207, Tryz.ntmps207
        go_wp2_with fail
        refine (CT.out w).mono ?_
        rintro ev w1 ⟨⟨v, er, rfl, h0, h1, hor, _⟩, hb⟩
        have HB : Hid (Below w.heap.size w w1) := hb
        have HP : Hid (∀ (v : Int) (ev : Value), (ev = .nilIface ∨ ev = .iface 289 (.int .i64 1) ∨ ev = .iface 289 (.int .i64 2)) → PI l (.returned (.tuple #[.int .i64 v, ev]))) := fun v ev h => ⟨v, ev, rfl, h, fun m hm e => absurd e (HNO.out m hm)⟩
        clear hb
        by_cases hv : v ≤ 2147483648
        · have hv2 : ¬ 2147483648 < v := by omega
          rcases hor with rfl | rfl | rfl
          all_goals
            go_wp2
            go_ret2
            exact ⟨HP.out _ _ (by simp), HB.out⟩
        · have hv2 : 2147483648 < v := by omega
          rcases hor with rfl | rfl | rfl
          all_goals
            go_wp2
            go_ret2
            exact ⟨HP.out _ _ (by simp), HB.out⟩
      · have b1 : (x == 43) = false := by simpa using h43
        have b2 : (x == 45) = false := by simpa using h45
        go_enter Tryz.func207, Tryz.ntmps207
        go_wp2_with fail
        refine (CS.out w).mono ?_
        rintro ev w1 ⟨⟨v, er, rfl, h0, h1, hor, hrd⟩, hb⟩
        have HB : Hid (Below w.heap.size w w1) := hb
        have HRD : Hid (∀ m, okM m → l = octB m → v = m ∧ v < 65536 ∧ er = .nilIface) := fun m hm e => by
          have h2 := oct_read m hm
          have h3 := hrd m.toNat (by rw [e]; exact h2.1) (by rw [e]; exact h2.2.1)
          rw [Int.toNat_of_nonneg h2.2.2.1] at h3
          exact ⟨h3.1, by rw [h3.1]; exact h2.2.2.2.1, h3.2⟩
        clear hb hrd
        by_cases hv : v < 2147483648
        · have hv2 : ¬ 2147483648 ≤ v := by omega
          rcases hor with rfl | rfl | rfl
          · have HP : Hid (PI l (.returned (.tuple #[.int .i64 v, .nilIface]))) := ⟨v, _, rfl, .inl rfl, fun m hm e => ⟨(HRD.out m hm e).1, rfl⟩⟩
            go_wp2
            go_ret2
            exact ⟨HP.out, HB.out⟩
          all_goals
            have HP : Hid (∀ (v : Int) (ev : Value), (ev = .nilIface ∨ ev = .iface 289 (.int .i64 1) ∨ ev = .iface 289 (.int .i64 2)) → PI l (.returned (.tuple #[.int .i64 v, ev]))) := fun v ev h => ⟨v, ev, rfl, h, fun m hm e => by have := (HRD.out m hm e).2.2; cases this⟩
            go_wp2
            go_ret2
            exact ⟨HP.out _ _ (by simp), HB.out⟩
        · have hv2 : 2147483648 ≤ v := by omega
          have HP : Hid (∀ (v : Int) (ev : Value), (ev = .nilIface ∨ ev = .iface 289 (.int .i64 1) ∨ ev = .iface 289 (.int .i64 2)) → PI l (.returned (.tuple #[.int .i64 v, ev]))) := fun v ev h => ⟨v, ev, rfl, h, fun m hm e => by have := (HRD.out m hm e).2.1; omega⟩
          rcases hor with rfl | rfl | rfl
          all_goals
            go_wp2
            go_ret2
            exact ⟨HP.out _ _ (by simp), HB.out⟩
/-- What is known of a mode that was read. -/
def PMo (l : List UInt8) (e : Ending) : Prop := ∃ v : Int, e = .returned (.int .i64 v) ∧ ∀ m, okM m → l = octB m → v = m
set_option maxHeartbeats 4000000 in
set_option maxRecDepth 100000 in
theorem parseIntP8 (l : List UInt8) (hl : l.length ≤ 1000000) (w : World) (he : Ers w) :
    Calls Tryz.prog 172 #[.string ⟨l.toArray⟩, .int .i64 8, .int .i64 32] w fun e w' => Below w.heap.size w w' ∧ ∃ (v : Int) (ev : Value), e = .returned (.tuple #[.int .i64 v, ev]) ∧ (ev = .nilIface ∨ ∃ N, ev = .iface 292 (.pointer (some ⟨N, 0, none⟩))) ∧ (∀ m, okM m → l = octB m → v = m ∧ ev = .nilIface) := by
  have HI : Hid (Calls Tryz.prog 207 #[.string ⟨l.toArray⟩, .int .i64 8, .int .i64 32] w fun e w' => PI l e ∧ Below w.heap.size w w') := parseInt8 l hl w
  obtain ⟨S, HS⟩ : ∃ S : ByteArray, Hid (⟨l.toArray⟩ = S) := ⟨_, rfl⟩
  have hsz : S.size ≤ 281474976710656 := by rw [← HS.out, txt_len]; omega
  have HE : Hid (Ers w) := he
  rw [HS.out] at HI
  rw [HS.out]
  clear he
  go_enter Tryz.func172, Tryz.ntmps172
  go_wp2_with fail
  refine HI.out.mono ?_
  rintro ev w1 ⟨⟨v, er, rfl, hor, hrd⟩, hb⟩
  have HB : Hid (Below w.heap.size w w1) := hb
  have HRD : Hid (∀ m, okM m → l = octB m → v = m ∧ er = .nilIface) := hrd
  obtain ⟨⟨e1, hv1, hev1⟩, ⟨e2, hv2, hev2⟩⟩ := HE.out.below hb
  clear hb hrd
  rcases hor with rfl | rfl | rfl
  · clear hv1 hv2 hev1 hev2
    go_wp2
    go_ret2
    exact ⟨HB.out, v, _, rfl, .inl rfl, fun m hm e => ⟨(HRD.out m hm e).1, rfl⟩⟩
  · have C : Hid (Calls Tryz.prog 208 #[.string ⟨#[80, 97, 114, 115, 101, 73, 110, 116]⟩, .string S, .int .i64 8, .int .i64 32, .iface 289 (.int .i64 1)] w1 fun e w' => ∃ N, e = .returned (.iface 292 (.pointer (some ⟨N, 0, none⟩))) ∧ Below w1.heap.size w1 w') := hid (by
      refine (Any.strconv_toError_range (ρ := Tryz.laysC174_ren) { Tryz.laysC174 with } ⟨#[80, 97, 114, 115, 101, 73, 110, 116]⟩ S 8 32 e2 w1 hsz hv2 hev2).mono ?_
      rintro e w2 ⟨N, rfl, h1, h2, h3⟩
      exact ⟨N, rfl, h3⟩)
    clear hv1 hv2 hev1 hev2
    go_wp2_with fail
    refine C.out.mono ?_
    rintro e w2 ⟨N, rfl, hb⟩
    have HB2 : Hid (Below w.heap.size w w2) := HB.out.trans (hb.mono HB.out.size)
    clear hb
    go_wp2
    go_ret2
    exact ⟨HB2.out, v, _, rfl, .inr ⟨N, rfl⟩, fun m hm e => by have := (HRD.out m hm e).2; cases this⟩
  · have C : Hid (Calls Tryz.prog 208 #[.string ⟨#[80, 97, 114, 115, 101, 73, 110, 116]⟩, .string S, .int .i64 8, .int .i64 32, .iface 289 (.int .i64 2)] w1 fun e w' => ∃ N, e = .returned (.iface 292 (.pointer (some ⟨N, 0, none⟩))) ∧ Below w1.heap.size w1 w') := hid (by
      refine (Any.strconv_toError_syntax (ρ := Tryz.laysC174_ren) { Tryz.laysC174 with } ⟨#[80, 97, 114, 115, 101, 73, 110, 116]⟩ S 8 32 e1 w1 hsz hv1 hev1).mono ?_
      rintro e w2 ⟨N, rfl, h1, h2, h3⟩
      exact ⟨N, rfl, h3⟩)
    clear hv1 hv2 hev1 hev2
    go_wp2_with fail
    refine C.out.mono ?_
    rintro e w2 ⟨N, rfl, hb⟩
    have HB2 : Hid (Below w.heap.size w w2) := HB.out.trans (hb.mono HB.out.size)
    clear hb
    go_wp2
    go_ret2
    exact ⟨HB2.out, v, _, rfl, .inr ⟨N, rfl⟩, fun m hm e => by have := (HRD.out m hm e).2; cases this⟩
set_option maxRecDepth 100000 in
theorem modeOf_any (l : List UInt8) (hl : l.length ≤ 1000000) (w : World) (he : Ers w) :
    Calls Tryz.prog 134 #[.string ⟨l.toArray⟩] w fun e w' => Below w.heap.size w w' ∧ PMo l e := by
  have HI : Hid (Calls Tryz.prog 172 #[.string ⟨l.toArray⟩, .int .i64 8, .int .i64 32] w fun e w' => Below w.heap.size w w' ∧ ∃ (v : Int) (ev : Value), e = .returned (.tuple #[.int .i64 v, ev]) ∧ (ev = .nilIface ∨ ∃ N, ev = .iface 292 (.pointer (some ⟨N, 0, none⟩))) ∧ (∀ m, okM m → l = octB m → v = m ∧ ev = .nilIface)) := parseIntP8 l hl w he
  obtain ⟨S, HS⟩ : ∃ S : ByteArray, Hid (⟨l.toArray⟩ = S) := ⟨_, rfl⟩
  rw [HS.out] at HI
  rw [HS.out]
  clear he
  go_enter Tryz.func134, Tryz.ntmps134
  go_wp2_with fail
  refine HI.out.mono ?_
  rintro ev w1 ⟨hb, v, er, rfl, hor, hrd⟩
  have HB : Hid (Below w.heap.size w w1) := hb
  have HRD : Hid (∀ m, okM m → l = octB m → v = m ∧ er = .nilIface) := hrd
  clear hb hrd
  rcases hor with rfl | ⟨N, rfl⟩
  · go_wp2
    go_ret
    exact ⟨HB.out, v, rfl, fun m hm e => (HRD.out m hm e).1⟩
  · go_wp2
    go_ret
    exact ⟨HB.out, 0, rfl, fun m hm e => by have := (HRD.out m hm e).2; cases this⟩
end Go.Proofs.YtenbdeljblmbhaaGreatDoor
