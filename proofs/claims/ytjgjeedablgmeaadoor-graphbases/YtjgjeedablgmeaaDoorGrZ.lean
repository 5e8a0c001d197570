/- The document's 'Check'; the law. -/
import Derived.Test.YtjgjeedablgmeaaDoorGrY
namespace Go.Proofs.YtjgjeedablgmeaaDoor
open Go.RowKit
set_option linter.unusedVariables false
set_option linter.unusedSimpArgs false
theorem fnd_neg {l : List Nd} {y : List Int} (h : y ∉ ids l) : fnd l y = -1 := fnd_none l y (fun x hx e => h (e ▸ mem_ids hx))
/-- The first of its id. -/
theorem fnd_self {l : List Nd} (h : ∀ i, i < l.length → fnd l (l.getD i nd0).id = (i : Int)) : (ids l).Nodup := by
  have key : ∀ i j, i < l.length → j < l.length → (l.getD i nd0).id = (l.getD j nd0).id → i = j := fun i j hi hj e => by
    have h1 := h i hi
    have h2 := h j hj
    rw [e, h2] at h1
    omega
  refine List.pairwise_iff_getElem.2 (fun i j hi hj hij e => ?_)
  unfold ids at hi hj e
  rw [List.length_map] at hi hj
  rw [List.getElem_map, List.getElem_map] at e
  have := key i j hi hj (by
    rw [List.getD_eq_getElem?_getD, List.getD_eq_getElem?_getD, List.getElem?_eq_getElem hi, List.getElem?_eq_getElem hj]
    exact e)
  omega
theorem fnd_one {l : List Nd} (h : (ids l).Nodup) (i : Nat) (hi : i < l.length) : fnd l (l.getD i nd0).id = (i : Int) := by
  obtain ⟨t, h1, h2, h3⟩ := fnd_mem l _ (mem_ids (getD_mem l i nd0 hi))
  rw [h3]
  have : t = i := ids_idx h (x := l.getD t nd0) (y := l.getD i nd0) (by rw [List.getD_eq_getElem?_getD, List.getElem?_eq_getElem h1]; rfl) (by rw [List.getD_eq_getElem?_getD, List.getElem?_eq_getElem hi]; rfl) h2
  omega
theorem Rch.congr {l l' : List Nd} (h : ∀ x y, Ed l x y ↔ Ed l' x y) (S : List Int → Prop) (y : List Int) : Rch l S y → Rch l' S y := fun hr P a b => hr P a (fun x z hx he => b x z hx ((h x z).1 he))
theorem okg_key {l l' : List Nd} (h : l'.map key = l.map key) : OkG l' → OkG l := by
  have hids : ids l' = ids l := by
    have := congrArg (List.map (fun k : List Int × List (List Int) × Int => k.1)) h
    rw [List.map_map, List.map_map] at this
    exact this
  have hex : ∀ n ∈ l, ∃ n' ∈ l', n'.id = n.id ∧ n'.ps = n.ps := fun n hn => by
    have : key n ∈ l'.map key := by rw [h]; exact List.mem_map.2 ⟨n, hn, rfl⟩
    obtain ⟨n', h1, h2⟩ := List.mem_map.1 this
    exact ⟨n', h1, congrArg (·.1) h2, congrArg (·.2.1) h2⟩
  have hex2 : ∀ n ∈ l', ∃ n' ∈ l, n'.id = n.id ∧ n'.ps = n.ps := fun n hn => by
    have : key n ∈ l.map key := by rw [← h]; exact List.mem_map.2 ⟨n, hn, rfl⟩
    obtain ⟨n', h1, h2⟩ := List.mem_map.1 this
    exact ⟨n', h1, congrArg (·.1) h2, congrArg (·.2.1) h2⟩
  have hed : ∀ x y, Ed l x y ↔ Ed l' x y := fun x y => ⟨fun ⟨n, h1, h2, h3⟩ => by
    obtain ⟨n', k1, k2, k3⟩ := hex n h1
    exact ⟨n', k1, k2.trans h2, by rw [k3]; exact h3⟩, fun ⟨n, h1, h2, h3⟩ => by
    obtain ⟨n', k1, k2, k3⟩ := hex2 n h1
    exact ⟨n', k1, k2.trans h2, by rw [k3]; exact h3⟩⟩
  intro ho
  refine ⟨hids ▸ ho.one, fun n hn p hp => ?_, fun n hn hr => ?_⟩
  · obtain ⟨n', k1, k2, k3⟩ := hex n hn
    rw [← hids]
    exact ho.par n' k1 p (by rw [k3]; exact hp)
  · obtain ⟨n', k1, k2, k3⟩ := hex n hn
    refine ho.acy n' k1 ?_
    rw [k2, k3]
    exact Rch.congr hed _ _ hr
/-- What the document's 'Check' gives. -/
def PostRk (l : List Nd) (w : World) (e : Ending) (w' : World) : Prop := Below w.heap.size w w' ∧ ((OkG l ∧ e = .returned (.int .i64 0)) ∨ (¬ OkG l ∧ e = .returned (.int .i64 80)))
set_option maxRecDepth 20000 in
set_option maxHeartbeats 4000000 in
theorem rcheck_any {w : World} (a : Option Addr) (cap : Nat) (l : List Nd) (hP : Pn w a cap l) (hw : ∀ x ∈ l, NdW w x) (hn : l.length ≤ 40) (hps : ∀ x ∈ l, x.ps.length ≤ 40) : Calls Tryd.prog 10 #[.slice a l.length cap] w (PostRk l w) := by
  obtain ⟨n, HN⟩ : ∃ n, Hid (l.length = n) := ⟨_, rfl⟩
  obtain ⟨G, HG⟩ : ∃ G, Hid (w.heap.size = G) := ⟨_, rfl⟩
  have hn40 : n ≤ 40 := by rw [← HN.out]; exact hn
  have HPA : Hid (∀ W, Below G w W → Pn W a cap l) := fun W hW => hP.below (by rw [HG.out]; exact hW)
  have HWF : Hid (∀ W, Below G w W → ∀ x ∈ l, NdW W x) := fun W hW x hx => (hw x hx).below (by rw [HG.out]; exact hW)
  have HW2 : Hid (∀ x ∈ l, IdW x.id) := fun x hx => (hw x hx).id
  have HPS : Hid (∀ x ∈ l, x.ps.length ≤ 40) := hps
  have HL40 : Hid (l.length ≤ 40) := hn
  have HPL : Hid (0 < n → ∃ b off, a = some ⟨b, off, none⟩) := fun h0 => by
    obtain ⟨b, off, e1, _⟩ := hP.at_ (by rw [HN.out]; exact h0)
    exact ⟨b, off, e1⟩
  have C23 : Hid (∀ W, Below G w W → ∀ y Y, Hid (row .u8 y = Y) → IdW y → Calls Tryd.prog 23 #[.slice a n cap, .agg Y.toArray] W fun e w' => e = .returned (.int .i64 (fnd l y)) ∧ Below W.heap.size W w') := fun W hW y Y hY hy => by
    have := find_any a cap l (HPA.out W hW) (fun x hx => (HW2.out x hx).1) HL40.out y hy.1
    unfold idV at this
    rw [HN.out, hY.out] at this
    exact this
  have HB0 : Hid (Below G w w) := hid (Below.refl _ _)
  have HGS : Hid (∀ W, Below G w W → G ≤ W.heap.size) := fun W hW => by have := hW.size; have := HG.out; omega
  rw [HN.out]
  clear hP hw hps hn
  go_enter Tryd.func10, Tryd.ntmps10
  go_wp2_with fail
  go_loopg [3] n (fun gg iv wr => ∃ i : Nat, i ≤ n ∧ gg = n - i ∧ iv = .int .i64 i ∧ Hid (Below G w wr) ∧ Hid (∀ t, t < i → fnd l (l.getD t nd0).id = (t : Int) ∧ ∀ p ∈ (l.getD t nd0).ps, p ∈ ids l))
  case atStart => exact ⟨0, Nat.zero_le _, rfl, rfl, HB0, hid (fun t ht => by omega)⟩
  case round =>
    obtain ⟨i, hi, hk, rfl, HB, HA⟩ := hrel
    by_cases hlt : i < n
    · have hlti : (i : Int) < (n : Int) := by omega
      obtain ⟨b, off, hae⟩ := HPL.out (by omega)
      subst hae
      obtain ⟨x, HX⟩ : ∃ x, Hid (l.getD i nd0 = x) := ⟨_, rfl⟩
      have HXM : Hid (x ∈ l) := hid (by rw [← HX.out]; exact getD_mem l i _ (by rw [HN.out]; exact hlt))
      have HXW : Hid (IdW x.id) := HW2.out x HXM.out
      obtain ⟨RI, HRI⟩ : ∃ R : List Value, Hid (row .u8 x.id = R) := ⟨_, rfl⟩
      have hiI : (Tryd.prog.info? 41).map (·.size) = some RI.length := by rw [← HRI.out, row_len, HXW.out.1]; exact Tryd.size41
      have HRNG : Hid (∀ W, Below G w W → W.rangeAt b (off + i * 22) (ndV x)) := fun W hW => by
        obtain ⟨b', off', e1, _, e3⟩ := (HPA.out W hW).at_ (by rw [HN.out]; omega)
        cases e1
        have := e3 i (by rw [HN.out]; exact hlt)
        rw [HX.out] at this
        exact this
      have RR : Hid (wr.rangeAt b (off + i * 22) RI) := hid (by rw [← HRI.out]; exact nd_id (HRNG.out wr HB.out))
      have CF := C23.out wr HB.out x.id RI HRI HXW.out
      obtain ⟨t, ht, hty, hft⟩ := fnd_mem l x.id (mem_ids HXM.out)
      rw [hft] at CF
      have CF2 : Hid (Calls Tryd.prog 23 #[.slice (some ⟨b, off, none⟩) n cap, .agg RI.toArray] wr fun e w' => e = .returned (.int .i64 t) ∧ Below wr.heap.size wr w') := CF
      have HFT : Hid (fnd l x.id = (t : Int)) := hft
      clear CF hty hft ht
      go_wp2_with (first
        | refine wpList_load_mid rfl 41 _ rfl b (off + i * 22) rfl RI _ RR.out Tryd.underlying41 rfl hiI ?_
        | fail)
      refine CF2.out.mono ?_
      rintro ev w4 ⟨rfl, hb4⟩
      have HB4 : Hid (Below G w w4) := hid (HB.out.trans (hb4.mono (HGS.out wr HB.out)))
      clear hb4
      by_cases hti : t = i
      · subst hti
        obtain ⟨k, HK⟩ : ∃ k, Hid (x.ps.length = k) := ⟨_, rfl⟩
        have hk40 : k ≤ 40 := by rw [← HK.out]; exact HPS.out x HXM.out
        obtain ⟨pa, HPa⟩ : ∃ k, Hid (x.pa = k) := ⟨_, rfl⟩
        obtain ⟨pc, HPc⟩ : ∃ k, Hid (x.pc = k) := ⟨_, rfl⟩
        have HCELL : Hid (∀ W, Below G w W → W.cell? ⟨b, off + t * 22 + 20, none⟩ = some (.slice pa k pc)) := fun W hW => by
          have := nd_ps (HRNG.out W hW) HXW.out.1
          rw [HPa.out, HK.out, HPc.out] at this
          exact this
        have HPM : Hid (∀ W, Below G w W → Pa W pa pc x.ps) := fun W hW => by have := (HWF.out W hW x HXM.out).mem; rw [HPa.out, HPc.out] at this; exact this
        have HPI : Hid (∀ p ∈ x.ps, IdW p) := (HWF.out wr HB.out x HXM.out).ps
        have HPLP : Hid (0 < k → ∃ b off, pa = some ⟨b, off, none⟩) := fun h0 => by
          obtain ⟨b, off, e1, e2, _⟩ := (HPM.out wr HB.out).at_ (by rw [HK.out]; exact h0)
          exact ⟨b, off, e1⟩
        go_wp2_with fail
        go_loopg [4] k (fun gg kv wr => ∃ j : Nat, j ≤ k ∧ gg = k - j ∧ kv = .int .i64 j ∧ Hid (Below G w wr) ∧ Hid (∀ p ∈ x.ps.take j, p ∈ ids l))
        case atStart => exact ⟨0, Nat.zero_le _, rfl, rfl, HB4, hid (by simp)⟩
        case round =>
          clear HB4 HB RR
          obtain ⟨j, hj, hgj, rfl, HB, HJ⟩ := hrel
          have hcl := HCELL.out wr HB.out
          by_cases hjk : j < k
          · have hjki : (j : Int) < (k : Int) := by omega
            obtain ⟨pb, po, hpe⟩ := HPLP.out (by omega)
            subst hpe
            obtain ⟨y, HY⟩ : ∃ y, Hid (x.ps.getD j [] = y) := ⟨_, rfl⟩
            have HYM : Hid (y ∈ x.ps) := hid (by rw [← HY.out]; exact getD_mem _ j _ (by rw [HK.out]; exact hjk))
            have HYW : Hid (IdW y) := HPI.out y HYM.out
            obtain ⟨RF, HRF⟩ : ∃ R : List Value, Hid (row .u8 y = R) := ⟨_, rfl⟩
            have hi41 : (Tryd.prog.info? 41).map (·.size) = some RF.length := by rw [← HRF.out, row_len, HYW.out.1]; exact Tryd.size41
            have RR : Hid (wr.rangeAt pb (po + j * 20) RF) := hid (by
              obtain ⟨b', off', e1, _, e3⟩ := (HPM.out wr HB.out).at_ (by rw [HK.out]; omega)
              cases e1
              have := e3 j (by rw [HK.out]; exact hjk)
              rw [HY.out, HRF.out] at this
              exact this)
            have HTK : Hid (∀ p ∈ x.ps.take (j + 1), p ∈ x.ps.take j ∨ p = y) := fun p hp => by
              rw [take_snocG [] x.ps j (by rw [HK.out]; exact hjk), HY.out] at hp
              rcases List.mem_append.1 hp with h1 | h1
              · exact .inl h1
              · exact .inr (by simpa using h1)
            obtain ⟨fv, HFV⟩ : ∃ v : Int, Hid (fnd l y = v) := ⟨_, rfl⟩
            have CF2 : Hid (Calls Tryd.prog 23 #[.slice (some ⟨b, off, none⟩) n cap, .agg RF.toArray] wr fun e w' => e = .returned (.int .i64 fv) ∧ Below wr.heap.size wr w') := hid (by rw [← HFV.out]; exact C23.out wr HB.out y RF HRF HYW.out)
            go_wp2_with (first
              | refine wpList_load_mid rfl 41 _ rfl pb (po + j * 20) rfl RF _ RR.out Tryd.underlying41 rfl hi41 ?_
              | fail)
            refine CF2.out.mono ?_
            rintro ev w5 ⟨rfl, hb5⟩
            have HB5 : Hid (Below G w w5) := hid (HB.out.trans (hb5.mono (HGS.out wr HB.out)))
            clear hb5 hcl
            by_cases hyi : y ∈ ids l
            · have HYI : Hid (y ∈ ids l) := hyi
              have hneg : ¬ fv < 0 := by
                obtain ⟨s, _, _, h3⟩ := fnd_mem l y hyi
                rw [← HFV.out, h3]; omega
              clear hyi
              go_wp2
              go_roundg (k - (j + 1))
              case measure => omega
              case rel => exact ⟨j + 1, by omega, rfl, by go_num, HB5, hid (fun p hp => by
                  rcases HTK.out p hp with h1 | h1
                  · exact HJ.out p h1
                  · rw [h1]; exact HYI.out)⟩
            · have hneg : fv < 0 := by rw [← HFV.out, fnd_neg hyi]; decide
              have HNO : Hid (¬ OkG l) := fun h => hyi (h.par x HXM.out y HYM.out)
              clear hyi
              go_wp2
              go_ret
              exact ⟨by rw [HG.out]; exact HB5.out, .inr ⟨HNO.out, rfl⟩⟩
          · have hjki : ¬ (j : Int) < (k : Int) := by omega
            have HAZ : Hid (∀ s, s < t + 1 → fnd l (l.getD s nd0).id = (s : Int) ∧ ∀ p ∈ (l.getD s nd0).ps, p ∈ ids l) := fun s hs => by
              by_cases e : s = t
              · subst e
                rw [HX.out]
                exact ⟨HFT.out, fun p hp => HJ.out p (by rw [List.take_of_length_le (by rw [HK.out]; omega)]; exact hp)⟩
              · exact HA.out s (by omega)
            go_wp2
            go_roundg (n - (t + 1))
            case measure => omega
            case rel => exact ⟨t + 1, by omega, rfl, by go_num, HB, HAZ⟩
      · have htii : ¬ (t : Int) = (i : Int) := by omega
        have htb : ((t : Int) == (i : Int)) = false := by rw [beq_eq_false_iff_ne]; exact htii
        have HNO : Hid (¬ OkG l) := fun h => hti (by
          have h1 := fnd_one h.one i (by rw [HN.out]; exact hlt)
          rw [HX.out, HFT.out] at h1
          omega)
        go_wp2
        go_ret
        exact ⟨by rw [HG.out]; exact HB4.out, .inr ⟨HNO.out, rfl⟩⟩
    · have hlti : ¬ (i : Int) < (n : Int) := by omega
      have HONE : Hid ((ids l).Nodup) := hid (fnd_self (fun t ht => (HA.out t (by rw [HN.out] at ht; omega)).1))
      have HPAR : Hid (∀ m ∈ l, ∀ p ∈ m.ps, p ∈ ids l) := fun m hm p hp => by
        obtain ⟨t, ht⟩ := List.getElem?_of_mem hm
        have htl := (List.getElem?_eq_some_iff.1 ht).1
        have hg : l.getD t nd0 = m := by rw [List.getD_eq_getElem?_getD, ht]; rfl
        exact (HA.out t (by rw [HN.out] at htl; omega)).2 p (by rw [hg]; exact hp)
      clear HA
      go_wp2_with fail
      clear hlti hlt hi hk
      go_loopg [6] n (fun gg iv wr => ∃ i : Nat, i ≤ n ∧ gg = n - i ∧ iv = .int .i64 i ∧ Hid (Below G w wr) ∧ Hid (∀ t, t < i → ¬ Rch l (· ∈ (l.getD t nd0).ps) (l.getD t nd0).id))
      case atStart => exact ⟨0, Nat.zero_le _, rfl, rfl, HB, hid (fun t ht => by omega)⟩
      case round =>
        clear HB
        obtain ⟨i, hi, hk, rfl, HB, HA⟩ := hrel
        by_cases hlt : i < n
        · have hlti : (i : Int) < (n : Int) := by omega
          obtain ⟨b, off, hae⟩ := HPL.out (by omega)
          subst hae
          obtain ⟨x, HX⟩ : ∃ x, Hid (l.getD i nd0 = x) := ⟨_, rfl⟩
          have HXM : Hid (x ∈ l) := hid (by rw [← HX.out]; exact getD_mem l i _ (by rw [HN.out]; exact hlt))
          have hxw := HWF.out wr HB.out x HXM.out
          obtain ⟨k, HK⟩ : ∃ k, Hid (x.ps.length = k) := ⟨_, rfl⟩
          obtain ⟨pa, HPa⟩ : ∃ k, Hid (x.pa = k) := ⟨_, rfl⟩
          obtain ⟨pc, HPc⟩ : ∃ k, Hid (x.pc = k) := ⟨_, rfl⟩
          have hk40 : k ≤ 40 := by rw [← HK.out]; exact HPS.out x HXM.out
          have hcl : wr.cell? ⟨b, off + i * 22 + 20, none⟩ = some (.slice pa k pc) := by
            obtain ⟨b', off', e1, _, e3⟩ := (HPA.out wr HB.out).at_ (by rw [HN.out]; omega)
            cases e1
            have := e3 i (by rw [HN.out]; exact hlt)
            rw [HX.out] at this
            have := nd_ps this hxw.id.1
            rw [HPa.out, HK.out, HPc.out] at this
            exact this
          have C24 : Hid (Calls Tryd.prog 24 #[.slice (some ⟨b, off, none⟩) n cap, .slice pa k pc] wr (PostRc l x.ps wr.heap.size n wr)) := hid (by
            have := reach_any (some ⟨b, off, none⟩) cap l (HPA.out wr HB.out) (HWF.out wr HB.out) HL40.out HPS.out HONE.out HPAR.out x.pa x.pc x.ps hxw.mem hxw.ps (by rw [HK.out]; exact hk40) (HPAR.out x HXM.out)
            rw [HN.out, HK.out, HPa.out, HPc.out] at this
            exact this)
          clear hxw
          go_wp2_with fail
          refine C24.out.mono ?_
          rintro ev w4 ⟨m, rfl, hmk, hme⟩
          have HB4 : Hid (Below G w w4) := hid (HB.out.trans (hmk.below.mono (HGS.out wr HB.out)))
          obtain ⟨hmc, _⟩ := hmk.cell i hlt
          obtain ⟨bi, HBI⟩ : ∃ b, Hid (m.getD i false = b) := ⟨_, rfl⟩
          rw [HBI.out] at hmc
          have hmi := hme i (by rw [HN.out]; exact hlt)
          rw [HX.out, HBI.out] at hmi
          have HMI : Hid (bi = true ↔ Rch l (· ∈ x.ps) x.id) := hmi
          obtain ⟨K, HKK⟩ : ∃ K, Hid (wr.heap.size = K) := ⟨_, rfl⟩
          rw [HKK.out] at hmc ⊢
          clear hmk hme hmi hcl
          cases bi with
          | true =>
            have HNO : Hid (¬ OkG l) := fun h => h.acy x HXM.out (HMI.out.1 rfl)
            go_wp2
            go_ret
            exact ⟨by rw [HG.out]; exact HB4.out, .inr ⟨HNO.out, rfl⟩⟩
          | false =>
            have HAZ : Hid (∀ t, t < i + 1 → ¬ Rch l (· ∈ (l.getD t nd0).ps) (l.getD t nd0).id) := fun t ht => by
              by_cases e : t = i
              · subst e
                rw [HX.out]
                intro hr
                have := HMI.out.2 hr
                cases this
              · exact HA.out t (by omega)
            go_wp2
            go_roundg (n - (i + 1))
            case measure => omega
            case rel => exact ⟨i + 1, by omega, rfl, by go_num, HB4, HAZ⟩
        · have hlti : ¬ (i : Int) < (n : Int) := by omega
          have HOK : Hid (OkG l) := ⟨HONE.out, HPAR.out, fun m hm hr => by
            obtain ⟨t, ht⟩ := List.getElem?_of_mem hm
            have htl := (List.getElem?_eq_some_iff.1 ht).1
            have hg : l.getD t nd0 = m := by rw [List.getD_eq_getElem?_getD, ht]; rfl
            exact HA.out t (by rw [HN.out] at htl; omega) (by rw [hg]; exact hr)⟩
          go_wp2
          go_ret
          exact ⟨by rw [HG.out]; exact HB.out, .inl ⟨HOK.out, rfl⟩⟩
end Go.Proofs.YtjgjeedablgmeaaDoor
