/- The document's 'Reach'. -/
import Derived.Test.YtjgjeedablgmeaaDoorGrX
import Derived.OwnWalk
namespace Go.Proofs.YtjgjeedablgmeaaDoor
open Go.RowKit
set_option linter.unusedVariables false
set_option linter.unusedSimpArgs false
theorem fnd_mem : ∀ (l : List Nd) (y : List Int), y ∈ ids l → ∃ t : Nat, t < l.length ∧ (l.getD t nd0).id = y ∧ fnd l y = (t : Int)
  | [], y, h => by simp [ids] at h
  | x :: r, y, h => by
    by_cases e : x.id = y
    · exact ⟨0, by simp, e, by simp [fnd, e]⟩
    · have h2 : y ∈ ids r := by
        rcases List.mem_cons.1 h with h1 | h1
        · exact absurd h1.symm e
        · exact h1
      obtain ⟨t, h3, h4, h5⟩ := fnd_mem r y h2
      refine ⟨t + 1, by simpa using h3, by simpa using h4, ?_⟩
      unfold fnd
      rw [if_neg e, h5, if_neg (by omega)]
      omega
/-- Marks in memory. -/
structure Mk (G n : Nat) (w wr : World) (m : List Bool) : Prop where
  below : Below G w wr
  own : wr.ownsRow G 4 1 (.slice (some ⟨G, 0, none⟩) n n) n (m.map Value.bool)
  len : m.length = n
theorem Mk.cell {G n : Nat} {w wr : World} {m : List Bool} (h : Mk G n w wr m) (j : Nat) (hj : j < n) : wr.cell? ⟨G, j, none⟩ = some (.bool (m.getD j false)) ∧ wr.frozen? ⟨G, j, none⟩ = false := by
  refine ⟨?_, h.own.frozenAt j⟩
  rw [h.own.cellAt j (by omega), List.getElem?_map, List.getElem?_eq_getElem (by rw [h.len]; exact hj), List.getD_eq_getElem?_getD, List.getElem?_eq_getElem (by rw [h.len]; exact hj)]
  rfl
theorem Mk.lt {G n : Nat} {w wr : World} {m : List Bool} (h : Mk G n w wr m) : G < wr.heap.size := (own_lt h.own G rfl).2
theorem Mk.bel {G n : Nat} {w wr w' : World} {m : List Bool} (h : Mk G n w wr m) (hb : Below wr.heap.size wr w') : Mk G n w w' m := ⟨h.below.trans (hb.mono (Nat.le_of_lt h.lt)), h.own.kept (row := none) (grown_of_below hb _) (.inr (by simp [Value.ownBlock])), h.len⟩
theorem Mk.set {G n : Nat} {w wr : World} {m : List Bool} (h : Mk G n w wr m) (t : Nat) : Mk G n w (wr.setCell ⟨G, t, none⟩ (.bool true)) (m.set t true) := by
  have h1 := h.own.stored t (.bool true)
  refine ⟨h.below.grown h1.2 (Nat.le_of_lt h.lt) (fun k hk => by cases hk; exact Nat.le_refl _), ?_, by rw [List.length_set]; exact h.len⟩
  rw [List.map_set]
  exact h1.1
theorem count_set : ∀ (m : List Bool) (t : Nat), t < m.length → m.getD t false = false → (m.set t true).count false + 1 = m.count false
  | [], t, h, _ => by simp at h
  | b :: r, 0, h, e => by
    have : b = false := e
    subst this
    simp
  | b :: r, t + 1, h, e => by
    have ih := count_set r t (by simpa using h) (by simpa using e)
    simp only [List.set_cons_succ, List.count_cons]
    omega
theorem getD_setB (m : List Bool) (t j : Nat) (ht : t < m.length) : (m.set t true).getD j false = true ↔ j = t ∨ m.getD j false = true := by
  rw [List.getD_eq_getElem?_getD, List.getD_eq_getElem?_getD, List.getElem?_set]
  by_cases e : t = j
  · subst e; simp [ht]
  · have e2 : ¬ j = t := fun h => e h.symm
    simp [e, e2]
/-- Marks are right so far. -/
structure Ms (l : List Nd) (fs : List (List Int)) (m : List Bool) : Prop where
  snd : ∀ t, t < l.length → m.getD t false = true → Rch l (· ∈ fs) (l.getD t nd0).id
def Base (l : List Nd) (fs : List (List Int)) (m : List Bool) : Prop := ∀ y ∈ fs, ∀ t : Nat, fnd l y = (t : Int) → m.getD t false = true
/-- All parents of node t are marked. -/
def Cl (l : List Nd) (m : List Bool) (t : Nat) : Prop := m.getD t false = true → ∀ p ∈ (l.getD t nd0).ps, ∀ s : Nat, fnd l p = (s : Int) → m.getD s false = true
theorem Ms.set {l : List Nd} {fs : List (List Int)} {m : List Bool} (h : Ms l fs m) (hl : m.length = l.length) {t : Nat} (ht : t < l.length) (hr : Rch l (· ∈ fs) (l.getD t nd0).id) : Ms l fs (m.set t true) := ⟨fun j hj hm => by
  rcases (getD_setB m t j (by omega)).1 hm with e | e
  · subst e; exact hr
  · exact h.snd j hj e⟩
theorem Base.set {l : List Nd} {fs : List (List Int)} {m : List Bool} (h : Base l fs m) {t : Nat} (ht : t < m.length) : Base l fs (m.set t true) := fun y hy s hs => (getD_setB m t s ht).2 (.inr (h y hy s hs))
theorem mk_all {l : List Nd} {fs : List (List Int)} {m : List Bool} (hone : (ids l).Nodup) (hpar : ∀ n ∈ l, ∀ p ∈ n.ps, p ∈ ids l) (hf : ∀ y ∈ fs, y ∈ ids l) (h : Ms l fs m) (hb : Base l fs m) (hc : ∀ t, t < l.length → Cl l m t) (t : Nat) (ht : t < l.length) : m.getD t false = true ↔ Rch l (· ∈ fs) (l.getD t nd0).id := by
  refine ⟨h.snd t ht, fun hr => ?_⟩
  have key := hr (fun y => y ∈ ids l ∧ ∀ s : Nat, fnd l y = (s : Int) → m.getD s false = true) (fun y hy => ⟨hf y hy, fun s hs => hb y hy s hs⟩) (fun x z hx he => by
    obtain ⟨nn, hn, e1, e2⟩ := he
    refine ⟨hpar nn hn z e2, fun s hs => ?_⟩
    obtain ⟨t', h1, h2, h3⟩ := fnd_mem l x hx.1
    have hm := hx.2 t' h3
    have hg : l.getD t' nd0 = nn := ids_inj hone (getD_mem l t' _ h1) hn (h2.trans e1.symm)
    exact hc t' h1 hm z (by rw [hg]; exact e2) s hs)
  obtain ⟨t', h1, h2, h3⟩ := fnd_mem l (l.getD t nd0).id key.1
  have hm := key.2 t' h3
  have hi : t' = t := ids_idx hone (x := l.getD t' nd0) (y := l.getD t nd0) (by rw [List.getD_eq_getElem?_getD, List.getElem?_eq_getElem h1]; rfl) (by rw [List.getD_eq_getElem?_getD, List.getElem?_eq_getElem ht]; rfl) h2
  rw [← hi]; exact hm
def PostRc (l : List Nd) (fs : List (List Int)) (G n : Nat) (w : World) (e : Ending) (w' : World) : Prop := ∃ m, e = .returned (.slice (some ⟨G, 0, none⟩) n n) ∧ Mk G n w w' m ∧ ∀ t, t < l.length → (m.getD t false = true ↔ Rch l (· ∈ fs) (l.getD t nd0).id)
theorem Tryd.info4 : (Tryd.prog.info? 4).map (fun i => (i.zero, i.size, i.bytes)) = some (some (.bool false), 1, 1) := by kernel_rfl
set_option maxRecDepth 20000 in
set_option maxHeartbeats 4000000 in
theorem reach_any {w : World} (a : Option Addr) (cap : Nat) (l : List Nd) (hP : Pn w a cap l) (hw : ∀ x ∈ l, NdW w x) (hn : l.length ≤ 40) (hps : ∀ x ∈ l, x.ps.length ≤ 40) (hone : (ids l).Nodup) (hpar : ∀ n ∈ l, ∀ p ∈ n.ps, p ∈ ids l)
    (fa : Option Addr) (fc : Nat) (fs : List (List Int)) (hF : Pa w fa fc fs) (hfi : ∀ y ∈ fs, IdW y) (hfl : fs.length ≤ 40) (hff : ∀ y ∈ fs, y ∈ ids l) :
    Calls Tryd.prog 24 #[.slice a l.length cap, .slice fa fs.length fc] w (PostRc l fs w.heap.size l.length w) := by
  obtain ⟨n, HN⟩ : ∃ n, Hid (l.length = n) := ⟨_, rfl⟩
  obtain ⟨nf, HNF⟩ : ∃ n, Hid (fs.length = n) := ⟨_, rfl⟩
  obtain ⟨G, HG⟩ : ∃ G, Hid (w.heap.size = G) := ⟨_, rfl⟩
  have hn40 : n ≤ 40 := by rw [← HN.out]; exact hn
  have hnf40 : nf ≤ 40 := by rw [← HNF.out]; exact hfl
  have HPA : Hid (∀ W, Below G w W → Pn W a cap l) := fun W hW => hP.below (by rw [HG.out]; exact hW)
  have HFA : Hid (∀ W, Below G w W → Pa W fa fc fs) := fun W hW => hF.below (by rw [HG.out]; exact hW)
  have HWF : Hid (∀ W, Below G w W → ∀ x ∈ l, NdW W x) := fun W hW x hx => (hw x hx).below (by rw [HG.out]; exact hW)
  have HW2 : Hid (∀ x ∈ l, x.id.length = 20) := fun x hx => (hw x hx).id.1
  have HPS : Hid (∀ x ∈ l, x.ps.length ≤ 40) := hps
  have HONE : Hid ((ids l).Nodup) := hone
  have HPAR : Hid (∀ n ∈ l, ∀ p ∈ n.ps, p ∈ ids l) := hpar
  have HFI : Hid (∀ y ∈ fs, IdW y) := hfi
  have HFF : Hid (∀ y ∈ fs, y ∈ ids l) := hff
  have HL40 : Hid (l.length ≤ 40) := hn
  have HPL : Hid (0 < n → ∃ b off, a = some ⟨b, off, none⟩) := fun h0 => by
    obtain ⟨b, off, e1, _⟩ := hP.at_ (by rw [HN.out]; exact h0)
    exact ⟨b, off, e1⟩
  have HPF : Hid (0 < nf → ∃ b off, fa = some ⟨b, off, none⟩) := fun h0 => by
    obtain ⟨b, off, e1, _⟩ := hF.at_ (by rw [HNF.out]; exact h0)
    exact ⟨b, off, e1⟩
  have C23 : Hid (∀ W, Below G w W → ∀ y Y, Hid (row .u8 y = Y) → IdW y → Calls Tryd.prog 23 #[.slice a n cap, .agg Y.toArray] W fun e w' => e = .returned (.int .i64 (fnd l y)) ∧ Below W.heap.size W w') := fun W hW y Y hY hy => by
    have := find_any a cap l (HPA.out W hW) HW2.out HL40.out y hy.1
    unfold idV at this
    rw [HN.out, hY.out] at this
    exact this
  obtain ⟨i4, hi4, hz0, hz1, hz2⟩ := info_parts Tryd.info4
  rw [HN.out, HNF.out, HG.out]
  clear hP hw hps hone hpar hF hfi hff hfl
  go_enter Tryd.func24, Tryd.ntmps24
  go_wp2_with (first
    | (at_make; refine wpList_make_full _ rfl _ _ 61 rfl G 4 i4 (.bool false) 1 Tryd.underlying61 hi4 hz0 hz1 _ _ _ _ n rfl rfl ?c1 ?c2 ?c3 ?c4 ?c5 ?_)
    | fail)
  case c1 => rfl
  case c2 => rfl
  case c3 => rw [hz2]; omega
  case c4 => unfold maxLen; omega
  case c5 => rw [HG.out]; exact Nat.le_refl _
  intro w1 hown1 hgr1
  rw [HG.out] at hown1 ⊢
  have HMK1 : Hid (Mk G n w w1 (List.replicate n false)) := hid ⟨by rw [← HG.out]; exact ⟨hgr1.os, hgr1.tape, hgr1.output, hgr1.size, fun k hk => hgr1.block k hk (by simp)⟩, by
    rw [List.map_replicate]
    rw [toList_madeCells_one] at hown1
    exact hown1, by simp⟩
  have HMS1 : Hid (Ms l fs (List.replicate n false)) := hid ⟨fun t ht hm => by
    rw [List.getD_eq_getElem?_getD, List.getElem?_replicate] at hm
    split at hm <;> simp at hm⟩
  clear hown1 hgr1
  go_wp2_with fail
  go_loopg [6] nf (fun gg iv wr => ∃ (i : Nat) (m : List Bool), i ≤ nf ∧ gg = nf - i ∧ iv = .int .i64 i ∧ Hid (Mk G n w wr m) ∧ Hid (Ms l fs m) ∧ Hid (Base l (fs.take i) m))
  case atStart => exact ⟨0, _, Nat.zero_le _, rfl, rfl, HMK1, HMS1, hid (fun y hy => by simp at hy)⟩
  case round =>
    obtain ⟨i, m, hi, hk, rfl, HM, HS, HBs⟩ := hrel
    by_cases hlt : i < nf
    · have hlti : (i : Int) < (nf : Int) := by omega
      obtain ⟨b, off, hae⟩ := HPF.out (by omega)
      subst hae
      obtain ⟨y, HY⟩ : ∃ y, Hid (fs.getD i [] = y) := ⟨_, rfl⟩
      have hym : y ∈ fs := by rw [← HY.out]; exact getD_mem fs i _ (by rw [HNF.out]; exact hlt)
      have HYW : Hid (IdW y) := HFI.out y hym
      obtain ⟨RF, HRF⟩ : ∃ R : List Value, Hid (row .u8 y = R) := ⟨_, rfl⟩
      have hi41 : (Tryd.prog.info? 41).map (·.size) = some RF.length := by rw [← HRF.out, row_len, HYW.out.1]; exact Tryd.size41
      have RR : Hid (wr.rangeAt b (off + i * 20) RF) := hid (by
        obtain ⟨b', off', e1, _, e3⟩ := (HFA.out wr HM.out.below).at_ (by rw [HNF.out]; omega)
        cases e1
        have := e3 i (by rw [HNF.out]; exact hlt)
        rw [HY.out, HRF.out] at this
        exact this)
      have CF := C23.out wr HM.out.below y RF HRF HYW.out
      obtain ⟨t, ht, hty, hft⟩ := fnd_mem l y (HFF.out y hym)
      rw [hft] at CF
      have CF2 : Hid (Calls Tryd.prog 23 #[.slice a n cap, .agg RF.toArray] wr fun e w' => e = .returned (.int .i64 t) ∧ Below wr.heap.size wr w') := CF
      have htn : t < n := by rw [← HN.out]; exact ht
      have htni : (t : Int) < (n : Int) := by omega
      have HFT : Hid (fnd l y = (t : Int)) := hft
      have HRT : Hid (Rch l (· ∈ fs) (l.getD t nd0).id) := hid (by rw [hty]; exact Rch.of hym)
      have HTL : Hid (t < l.length) := ht
      clear CF hym hty hft ht
      go_wp2_with (first
        | refine wpList_load_mid rfl 41 _ rfl b (off + i * 20) rfl RF _ RR.out Tryd.underlying41 rfl hi41 ?_
        | fail)
      refine CF2.out.mono ?_
      rintro ev w4 ⟨rfl, hb4⟩
      have HM4 : Hid (Mk G n w w4 m) := hid (HM.out.bel hb4)
      obtain ⟨hc4, hf4⟩ := HM4.out.cell t htn
      have HM5 : Hid (Mk G n w (w4.setCell ⟨G, t, none⟩ (.bool true)) (m.set t true)) := hid (HM4.out.set t)
      have HS5 : Hid (Ms l fs (m.set t true)) := hid (HS.out.set (by rw [HM.out.len, HN.out]) HTL.out HRT.out)
      have HB5 : Hid (Base l (fs.take (i + 1)) (m.set t true)) := hid (by
        rw [take_snocG [] fs i (by rw [HNF.out]; exact hlt), HY.out]
        intro z hz s hs
        rcases List.mem_append.1 hz with h1 | h1
        · exact (HBs.out.set (by rw [HM.out.len]; exact htn)) z h1 s hs
        · have e : z = y := by simpa using h1
          rw [e, HFT.out] at hs
          have e2 : s = t := by omega
          rw [e2]
          exact (getD_setB m t t (by rw [HM.out.len]; exact htn)).2 (.inl rfl))
      clear hb4
      go_wp2
      go_roundg (nf - (i + 1))
      case measure => omega
      case rel => exact ⟨i + 1, _, by omega, rfl, by go_num, HM5, HS5, HB5⟩
    · have hlti : ¬ (i : Int) < (nf : Int) := by omega
      have HBZ : Hid (Base l fs m) := hid (by
        have := HBs.out
        rw [List.take_of_length_le (by rw [HNF.out]; omega)] at this
        exact this)
      clear HBs
      go_wp2_with fail
      clear hlti hlt hi hk
      go_loopg [8] (m.count false + 1) (fun gg av wr => ∃ (m : List Bool) (ag : Bool), av = .bool ag ∧ gg = m.count false + (if ag = true then 1 else 0) ∧ Hid (Mk G n w wr m) ∧ Hid (Ms l fs m) ∧ Hid (Base l fs m) ∧ Hid (ag = false → ∀ t, t < n → Cl l m t))
      case atStart => exact ⟨m, true, rfl, rfl, HM, HS, HBZ, hid (fun h => by cases h)⟩
      case round =>
        clear HM HS HBZ
        obtain ⟨m0, ag, rfl, hgg, HM, HS, HBZ, HCl⟩ := hrel
        cases ag with
        | false =>
          have HFIN : Hid (∀ t, t < l.length → (m0.getD t false = true ↔ Rch l (· ∈ fs) (l.getD t nd0).id)) := hid (mk_all HONE.out HPAR.out HFF.out HS.out HBZ.out (fun t ht => HCl.out rfl t (by rw [← HN.out]; exact ht)))
          go_wp2
          go_ret
          exact ⟨m0, rfl, HM.out, HFIN.out⟩
        | true =>
          obtain ⟨c0, HC0⟩ : ∃ c, Hid (m0.count false = c) := ⟨_, rfl⟩
          have hggc : gk = c0 + 1 := by rw [hgg, HC0.out]; rfl
          clear hgg HCl
          go_wp2_with fail
          go_loopg [8, 9] n (fun gg av iv wr => ∃ (i : Nat) (m : List Bool) (ag : Bool), av = .bool ag ∧ iv = .int .i64 i ∧ i ≤ n ∧ gg = n - i ∧ Hid (Mk G n w wr m) ∧ Hid (Ms l fs m) ∧ Hid (Base l fs m) ∧ m.count false + (if ag = true then 1 else 0) ≤ c0 ∧ Hid (ag = false → ∀ t, t < i → Cl l m t))
          case atStart => exact ⟨0, m0, false, rfl, rfl, Nat.zero_le _, rfl, HM, HS, HBZ, by rw [HC0.out]; exact Nat.le_refl _, hid (fun _ t ht => by omega)⟩
          case round =>
            clear HM HS HBZ
            obtain ⟨i, m, ag, rfl, rfl, hi, hgi, HM, HS, HBZ, hct, HCl⟩ := hrel
            by_cases hlt : i < n
            · have hlti : (i : Int) < (n : Int) := by omega
              obtain ⟨b, off, hae⟩ := HPL.out (by omega)
              subst hae
              obtain ⟨x, HX⟩ : ∃ x, Hid (l.getD i nd0 = x) := ⟨_, rfl⟩
              have HXM : Hid (x ∈ l) := hid (by rw [← HX.out]; exact getD_mem l i _ (by rw [HN.out]; exact hlt))
              have HXW : Hid (x.id.length = 20) := HW2.out x HXM.out
              obtain ⟨k, HK⟩ : ∃ k, Hid (x.ps.length = k) := ⟨_, rfl⟩
              have hk40 : k ≤ 40 := by rw [← HK.out]; exact HPS.out x HXM.out
              obtain ⟨pa, HPa⟩ : ∃ k, Hid (x.pa = k) := ⟨_, rfl⟩
              obtain ⟨pc, HPc⟩ : ∃ k, Hid (x.pc = k) := ⟨_, rfl⟩
              have HCELL : Hid (∀ W, Below G w W → W.cell? ⟨b, off + i * 22 + 20, none⟩ = some (.slice pa k pc)) := fun W hW => by
                obtain ⟨b', off', e1, _, e3⟩ := (HPA.out W hW).at_ (by rw [HN.out]; omega)
                cases e1
                have := e3 i (by rw [HN.out]; exact hlt)
                rw [HX.out] at this
                have := nd_ps this HXW.out
                rw [HPa.out, HK.out, HPc.out] at this
                exact this
              have HPM : Hid (∀ W, Below G w W → Pa W pa pc x.ps) := fun W hW => by have := (HWF.out W hW x HXM.out).mem; rw [HPa.out, HPc.out] at this; exact this
              have HPI : Hid (∀ p ∈ x.ps, IdW p) := (HWF.out wr HM.out.below x HXM.out).ps
              have HPLP : Hid (0 < k → ∃ b off, pa = some ⟨b, off, none⟩) := fun h0 => by
                obtain ⟨b, off, e1, e2, _⟩ := (HPM.out wr HM.out.below).at_ (by rw [HK.out]; exact h0)
                exact ⟨b, off, e1⟩
              have HK0 : Hid (ag = false → ∀ p ∈ x.ps.take 0, ∀ s : Nat, fnd l p = (s : Int) → m.getD s false = true) := hid (fun _ p hp => by simp at hp)
              go_wp2_with fail
              go_loopg [8, 10] k (fun gg av kv wr => ∃ (j : Nat) (m : List Bool) (ag : Bool), av = .bool ag ∧ kv = .int .i64 j ∧ j ≤ k ∧ gg = k - j ∧ Hid (Mk G n w wr m) ∧ Hid (Ms l fs m) ∧ Hid (Base l fs m) ∧ m.count false + (if ag = true then 1 else 0) ≤ c0 ∧ Hid (ag = false → ∀ t, t < i → Cl l m t) ∧ Hid (ag = false → ∀ p ∈ x.ps.take j, ∀ s : Nat, fnd l p = (s : Int) → m.getD s false = true))
              case atStart => exact ⟨0, m, ag, rfl, rfl, Nat.zero_le _, rfl, HM, HS, HBZ, hct, HCl, HK0⟩
              case round =>
                clear HM HS HBZ HCl HK0 hct
                obtain ⟨j, m, ag, rfl, rfl, hj, hgj, HM, HS, HBZ, hct, HCl, HKj⟩ := hrel
                have hcl1 := HCELL.out wr HM.out.below
                obtain ⟨hmi, _⟩ := HM.out.cell i hlt
                obtain ⟨bi, HBI⟩ : ∃ b, Hid (m.getD i false = b) := ⟨_, rfl⟩
                rw [HBI.out] at hmi
                by_cases hjk : j < k
                · have hjki : (j : Int) < (k : Int) := by omega
                  cases bi with
                  | false =>
                    have HCZ : Hid (ag = false → ∀ t, t < i + 1 → Cl l m t) := fun ha t ht => by
                      by_cases e : t = i
                      · subst e; intro h; rw [HBI.out] at h; cases h
                      · exact HCl.out ha t (by omega)
                    go_wp2
                    go_roundg (n - (i + 1))
                    case measure => omega
                    case rel => exact ⟨i + 1, m, ag, rfl, by go_num, by omega, rfl, HM, HS, HBZ, hct, HCZ⟩
                  | true =>
                    obtain ⟨pb, po, hpe⟩ := HPLP.out (by omega)
                    subst hpe
                    obtain ⟨y, HY⟩ : ∃ y, Hid (x.ps.getD j [] = y) := ⟨_, rfl⟩
                    have hym : y ∈ x.ps := by rw [← HY.out]; exact getD_mem _ j _ (by rw [HK.out]; exact hjk)
                    have HYW : Hid (IdW y) := HPI.out y hym
                    obtain ⟨RF, HRF⟩ : ∃ R : List Value, Hid (row .u8 y = R) := ⟨_, rfl⟩
                    have hi41 : (Tryd.prog.info? 41).map (·.size) = some RF.length := by rw [← HRF.out, row_len, HYW.out.1]; exact Tryd.size41
                    have RR : Hid (wr.rangeAt pb (po + j * 20) RF) := hid (by
                      obtain ⟨b', off', e1, _, e3⟩ := (HPM.out wr HM.out.below).at_ (by rw [HK.out]; omega)
                      cases e1
                      have := e3 j (by rw [HK.out]; exact hjk)
                      rw [HY.out, HRF.out] at this
                      exact this)
                    have CF := C23.out wr HM.out.below y RF HRF HYW.out
                    obtain ⟨t, ht, hty, hft⟩ := fnd_mem l y (HPAR.out x HXM.out y hym)
                    rw [hft] at CF
                    have CF2 : Hid (Calls Tryd.prog 23 #[.slice (some ⟨b, off, none⟩) n cap, .agg RF.toArray] wr fun e w' => e = .returned (.int .i64 t) ∧ Below wr.heap.size wr w') := CF
                    have htn : t < n := by rw [← HN.out]; exact ht
                    have htni : (t : Int) < (n : Int) := by omega
                    have HFT : Hid (fnd l y = (t : Int)) := hft
                    have HRT : Hid (Rch l (· ∈ fs) (l.getD t nd0).id) := hid (by
                      rw [hty]
                      have h1 := HS.out.snd i (by rw [HN.out]; exact hlt) HBI.out
                      rw [HX.out] at h1
                      exact h1.step ⟨x, HXM.out, rfl, hym⟩)
                    have HTL : Hid (t < l.length) := ht
                    have HTK : Hid (∀ p ∈ x.ps.take (j + 1), p ∈ x.ps.take j ∨ p = y) := fun p hp => by
                      rw [take_snocG [] x.ps j (by rw [HK.out]; exact hjk), HY.out] at hp
                      rcases List.mem_append.1 hp with h1 | h1
                      · exact .inl h1
                      · exact .inr (by simpa using h1)
                    clear CF hym hty hft ht
                    go_wp2_with (first
                      | refine wpList_load_mid rfl 41 _ rfl pb (po + j * 20) rfl RF _ RR.out Tryd.underlying41 rfl hi41 ?_
                      | fail)
                    refine CF2.out.mono ?_
                    rintro ev w4 ⟨rfl, hb4⟩
                    have HM4 : Hid (Mk G n w w4 m) := hid (HM.out.bel hb4)
                    obtain ⟨hc4, hf4⟩ := HM4.out.cell t htn
                    obtain ⟨bt, HBT⟩ : ∃ b, Hid (m.getD t false = b) := ⟨_, rfl⟩
                    rw [HBT.out] at hc4
                    clear hb4 hmi hcl1
                    cases bt with
                    | true =>
                      have HKZ : Hid (ag = false → ∀ p ∈ x.ps.take (j + 1), ∀ s : Nat, fnd l p = (s : Int) → m.getD s false = true) := fun ha p hp s hs => by
                        rcases HTK.out p hp with h1 | h1
                        · exact HKj.out ha p h1 s hs
                        · rw [h1, HFT.out] at hs
                          have e2 : s = t := by omega
                          rw [e2]; exact HBT.out
                      go_wp2
                      go_roundg (k - (j + 1))
                      case measure => omega
                      case rel => exact ⟨j + 1, m, ag, rfl, by go_num, by omega, rfl, HM4, HS, HBZ, hct, HCl, HKZ⟩
                    | false =>
                      have HM5 : Hid (Mk G n w (w4.setCell ⟨G, t, none⟩ (.bool true)) (m.set t true)) := hid (HM4.out.set t)
                      have HS5 : Hid (Ms l fs (m.set t true)) := hid (HS.out.set (by rw [HM.out.len, HN.out]) HTL.out HRT.out)
                      have HB5 : Hid (Base l fs (m.set t true)) := hid (HBZ.out.set (by rw [HM.out.len]; exact htn))
                      have hct5 : (m.set t true).count false + (if true = true then 1 else 0) ≤ c0 := by
                        have h1 := count_set m t (by rw [HM.out.len]; exact htn) HBT.out
                        rw [if_pos rfl]
                        split at hct <;> omega
                      go_wp2
                      go_roundg (k - (j + 1))
                      case measure => omega
                      case rel => exact ⟨j + 1, _, true, rfl, by go_num, by omega, rfl, HM5, HS5, HB5, hct5, hid (fun h => by cases h), hid (fun h => by cases h)⟩
                · have hjki : ¬ (j : Int) < (k : Int) := by omega
                  have HCZ : Hid (ag = false → ∀ t, t < i + 1 → Cl l m t) := fun ha t ht => by
                    by_cases e : t = i
                    · subst e
                      intro h p hp s hs
                      rw [HX.out] at hp
                      exact HKj.out ha p (by rw [List.take_of_length_le (by rw [HK.out]; omega)]; exact hp) s hs
                    · exact HCl.out ha t (by omega)
                  go_wp2
                  go_roundg (n - (i + 1))
                  case measure => omega
                  case rel => exact ⟨i + 1, m, ag, rfl, by go_num, by omega, rfl, HM, HS, HBZ, hct, HCZ⟩
            · have hlti : ¬ (i : Int) < (n : Int) := by omega
              have hin : i = n := by omega
              have HCZ : Hid (ag = false → ∀ t, t < n → Cl l m t) := hid (by rw [← hin]; exact HCl.out)
              clear hin
              go_wp2
              go_roundg (m.count false + (if ag = true then 1 else 0))
              case measure => omega
              case rel => exact ⟨m, ag, rfl, rfl, HM, HS, HBZ, HCZ⟩
end Go.Proofs.YtjgjeedablgmeaaDoor
