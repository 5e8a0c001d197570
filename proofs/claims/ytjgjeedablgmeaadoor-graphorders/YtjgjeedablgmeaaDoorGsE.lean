/- The document's 'Order'. -/
import Derived.Test.YtjgjeedablgmeaaDoorGsC
import Derived.Test.YtjgjeedablgmeaaDoorGsD
import Derived.Test.YtjgjeedablgmeaaDoorGsK
namespace Go.Proofs.YtjgjeedablgmeaaDoor
open Go.RowKit
set_option linter.unusedVariables false
set_option linter.unusedSimpArgs false
/-- Marks in memory. -/
structure LM (G n : Nat) (w : World) (m : List Bool) : Prop where
  own : w.ownsRow G 4 1 (.slice (some ⟨G, 0, none⟩) n n) n (m.map Value.bool)
  len : m.length = n
theorem LM.cell {G n : Nat} {w : World} {m : List Bool} (h : LM G n w m) (j : Nat) (hj : j < n) : w.cell? ⟨G, j, none⟩ = some (.bool (m.getD j false)) ∧ w.frozen? ⟨G, j, none⟩ = false := by
  refine ⟨?_, h.own.frozenAt j⟩
  rw [h.own.cellAt j (by omega), List.getElem?_map, List.getElem?_eq_getElem (by rw [h.len]; exact hj), List.getD_eq_getElem?_getD, List.getElem?_eq_getElem (by rw [h.len]; exact hj)]
  rfl
theorem LM.lt {G n : Nat} {w : World} {m : List Bool} (h : LM G n w m) : G < w.heap.size := (own_lt h.own G rfl).2
theorem LM.kept {G n : Nat} {w w' : World} {m : List Bool} {row : Option Nat} (h : LM G n w m) (hg : w.grownBy w' row) (hne : some G ≠ row) : LM G n w' m := ⟨h.own.kept hg (.inr (by simpa [Value.ownBlock] using hne)), h.len⟩
theorem LM.below {G n : Nat} {w w' : World} {m : List Bool} (h : LM G n w m) (hb : Below w.heap.size w w') : LM G n w' m := h.kept (row := none) (grown_of_below hb _) (by simp)
theorem LM.set {G n : Nat} {w : World} {m : List Bool} (h : LM G n w m) (t : Nat) (b : Bool) : LM G n (w.setCell ⟨G, t, none⟩ (.bool b)) (m.set t b) ∧ w.grownBy (w.setCell ⟨G, t, none⟩ (.bool b)) (some G) := by
  have h1 := h.own.stored t (.bool b)
  refine ⟨⟨?_, by rw [List.length_set]; exact h.len⟩, h1.2⟩
  rw [List.map_set]
  exact h1.1
theorem Mk.lm {G n : Nat} {w wr : World} {m : List Bool} (h : Mk G n w wr m) : LM G n wr m := ⟨h.own, h.len⟩
theorem getD_setb (m : List Bool) (t j : Nat) (b : Bool) (ht : t < m.length) : (m.set t b).getD j false = if j = t then b else m.getD j false := by
  rw [List.getD_eq_getElem?_getD, List.getD_eq_getElem?_getD, List.getElem?_set]
  by_cases e : t = j
  · subst e; simp [ht]
  · have e2 : ¬ j = t := fun h => e h.symm
    simp [e, e2]
theorem count_setF : ∀ (m : List Bool) (t : Nat), t < m.length → m.getD t false = true → (m.set t false).count true + 1 = m.count true
  | [], t, h, _ => by simp at h
  | b :: r, 0, h, e => by
    have : b = true := e
    subst this
    simp
  | b :: r, t + 1, h, e => by
    have ih := count_setF r t (by simpa using h) (by simpa using e)
    simp only [List.set_cons_succ, List.count_cons]
    omega
/-- Marks are of those of L whose ids are not in I. -/
def Lft (l L : List Nd) (m : List Bool) (I : List (List Int)) : Prop := ∀ t, t < l.length → (m.getD t false = true ↔ l.getD t nd0 ∈ L ∧ (l.getD t nd0).id ∉ I)
theorem idx_of {l : List Nd} {z : Nd} (h : z ∈ l) : ∃ t, t < l.length ∧ l.getD t nd0 = z := by
  obtain ⟨t, ht⟩ := List.getElem?_of_mem h
  have h1 := (List.getElem?_eq_some_iff.1 ht).1
  exact ⟨t, h1, by rw [List.getD_eq_getElem?_getD, ht]; rfl⟩
theorem getD_some {l : List Nd} {t : Nat} (h : t < l.length) : l[t]? = some (l.getD t nd0) := by rw [List.getD_eq_getElem?_getD, List.getElem?_eq_getElem h]; rfl
theorem Lft.stop {l L : List Nd} {m : List Bool} {I : List (List Int)} (hL : ∀ x ∈ L, x ∈ l) (ha : Acy L) (hp : OrdP L I) (h : Lft l L m I) (hno : ∀ s, s < l.length → ¬ Fr l m s) : OrdI L I := by
  refine hp.full ha (fun z hz hzI => ?_)
  obtain ⟨t, ht, rfl⟩ := idx_of (hL z hz)
  have h1 := hno t ht
  have h2 : m.getD t false = true := (h t ht).2 ⟨hz, hzI⟩
  apply Classical.byContradiction
  intro h3
  refine h1 ⟨h2, fun s hs hms hp2 => h3 ⟨l.getD s nd0, ((h s hs).1 hms).1, hp2, ((h s hs).1 hms).2⟩⟩
theorem Lft.go {l L : List Nd} {m : List Bool} {I : List (List Int)} {t : Nat} (hl : (ids l).Nodup) (hLn : (ids L).Nodup) (hL : ∀ x ∈ L, x ∈ l) (hm : m.length = l.length) (hp : OrdP L I) (h : Lft l L m I) (ht : t < l.length) (hf : Fr l m t) (hb : ∀ s, s < l.length → Fr l m s → ¬ Ah (l.getD s nd0) (l.getD t nd0)) : OrdP L (I ++ [(l.getD t nd0).id]) ∧ Lft l L (m.set t false) (I ++ [(l.getD t nd0).id]) := by
  obtain ⟨hxL, hxI⟩ := (h t ht).1 hf.1
  refine ⟨hp.snoc hLn hxL hxI (fun c hc hpc => ?_) (fun z hz hzI hzc => ?_), fun s hs => ?_⟩
  · obtain ⟨s, hs, rfl⟩ := idx_of (hL c hc)
    apply Classical.byContradiction
    intro hcI
    exact hf.2 s hs ((h s hs).2 ⟨hc, hcI⟩) hpc
  · obtain ⟨s, hs, rfl⟩ := idx_of (hL z hz)
    refine hb s hs ⟨(h s hs).2 ⟨hz, hzI⟩, fun r hr hmr hpr => ?_⟩
    have h1 := (h r hr).1 hmr
    exact h1.2 (hzc _ h1.1 hpr)
  · rw [getD_setb m t s false (by omega)]
    by_cases e : s = t
    · subst e
      simp
    · rw [if_neg e, h s hs]
      have hne : (l.getD s nd0).id ≠ (l.getD t nd0).id := fun e2 => e (ids_idx hl (getD_some hs) (getD_some ht) e2)
      constructor
      · rintro ⟨h1, h2⟩
        refine ⟨h1, fun h3 => ?_⟩
        rcases List.mem_append.1 h3 with h4 | h4
        · exact h2 h4
        · exact hne (by simpa using h4)
      · rintro ⟨h1, h2⟩
        exact ⟨h1, fun h3 => h2 (List.mem_append.2 (.inl h3))⟩
/-- What the document's 'Order' gives. -/
def PostRo (l : List Nd) (F N : List (List Int)) (w : World) (e : Ending) (w' : World) : Prop := Below w.heap.size w w' ∧
  (((OkG l ∧ ∀ y ∈ F ++ N, y ∈ ids l) ∧ ∃ (f : Nd → Bool) (v : Value) (I : List (List Int)) (Bo : Nat), Sel l F N f ∧ OrdI (l.filter f) I ∧ e = .returned (.tuple #[v, .int .i64 0]) ∧ Bi 41 w' w' Bo v I) ∨
   (¬ (OkG l ∧ ∀ y ∈ F ++ N, y ∈ ids l) ∧ e = .returned (.tuple #[.slice none 0 0, .int .i64 80])))
set_option maxRecDepth 20000 in
set_option maxHeartbeats 4000000 in
theorem rorder_any {w : World} (a : Option Addr) (cap : Nat) (l : List Nd) (hP : Pn w a cap l) (hw : ∀ x ∈ l, NdW w x) (hn : l.length ≤ 40) (hps : ∀ x ∈ l, x.ps.length ≤ 40)
    (fa : Option Addr) (fc : Nat) (F : List (List Int)) (hF : Pa w fa fc F) (na : Option Addr) (nc : Nat) (N : List (List Int)) (hN : Pa w na nc N) (hi : ∀ y ∈ F ++ N, IdW y) (hl : F.length + N.length ≤ 40) :
    Calls Tryd.prog 14 #[.slice a l.length cap, .slice fa F.length fc, .slice na N.length nc] w (PostRo l F N w) := by
  obtain ⟨G, HG⟩ : ∃ G, Hid (w.heap.size = G) := ⟨_, rfl⟩
  obtain ⟨n, HNL⟩ : ∃ n, Hid (l.length = n) := ⟨_, rfl⟩
  obtain ⟨nF, HNF⟩ : ∃ n, Hid (F.length = n) := ⟨_, rfl⟩
  obtain ⟨nN, HNN⟩ : ∃ n, Hid (N.length = n) := ⟨_, rfl⟩
  have HPN : Hid (∀ W, Below G w W → Pn W a cap l) := fun W hW => hP.below (by rw [HG.out]; exact hW)
  have HWF : Hid (∀ W, Below G w W → ∀ x ∈ l, NdW W x) := fun W hW x hx => (hw x hx).below (by rw [HG.out]; exact hW)
  have HPF : Hid (∀ W, Below G w W → Pa W fa fc F) := fun W hW => hF.below (by rw [HG.out]; exact hW)
  have HPO : Hid (∀ W, Below G w W → Pa W na nc N) := fun W hW => hN.below (by rw [HG.out]; exact hW)
  have HFI : Hid (∀ y ∈ F, IdW y) := fun y hy => hi y (by simp [hy])
  have HNI : Hid (∀ y ∈ N, IdW y) := fun y hy => hi y (by simp [hy])
  have HL40 : Hid (l.length ≤ 40) := hn
  have HPS : Hid (∀ x ∈ l, x.ps.length ≤ 40) := hps
  have HSUM : Hid (F.length + N.length ≤ 40) := hl
  have HW2 : Hid (∀ x ∈ l, IdW x.id) := fun x hx => (hw x hx).id
  have HPL : Hid (0 < n → ∃ b off, a = some ⟨b, off, none⟩ ∧ b < G) := fun h0 => by
    obtain ⟨b, off, e1, e2, _⟩ := hP.at_ (by rw [HNL.out]; exact h0)
    exact ⟨b, off, e1, by rw [← HG.out]; exact e2⟩
  have hn40 : n ≤ 40 := by rw [← HNL.out]; exact hn
  have C10 : Hid (Calls Tryd.prog 10 #[.slice a n cap] w (PostRk l w)) := hid (by
    have := rcheck_any a cap l hP hw hn hps
    rw [HNL.out] at this
    exact this)
  have HGS : Hid (∀ W, Below G w W → G ≤ W.heap.size) := fun W hW => by have := hW.size; have := HG.out; omega
  rw [HNL.out, HNF.out, HNN.out]
  clear hP hw hn hps hF hN hi hl
  go_enter Tryd.func14, Tryd.ntmps14
  go_wp2_with fail
  refine C10.out.mono ?_
  rintro ev w1 ⟨hb1, hck⟩
  have HB1 : Hid (Below G w w1) := hid (by rw [← HG.out]; exact hb1)
  have C30 : Hid (Calls Tryd.prog 30 #[.slice a n cap, .slice fa nF fc] w1 fun e w' => BI (∀ y ∈ F, y ∈ ids l) e ∧ Below w1.heap.size w1 w') := hid (by
    have := known_any a cap l (HPN.out _ HB1.out) (fun x hx => (HW2.out x hx).1) HL40.out fa fc F (HPF.out _ HB1.out) HFI.out (by have := HSUM.out; omega)
    rw [HNL.out, HNF.out] at this
    exact this)
  have HCK : Hid ((OkG l ∧ ev = .returned (.int .i64 0)) ∨ (¬ OkG l ∧ ev = .returned (.int .i64 80))) := hck
  clear hb1 hck C10
  obtain ⟨ec, hev, HEC⟩ : ∃ ec : Int, ev = .returned (.int .i64 ec) ∧ Hid ((OkG l ∧ ec = 0) ∨ (¬ OkG l ∧ ec = 80)) := by
    rcases HCK.out with ⟨h1, h2⟩ | ⟨h1, h2⟩
    · exact ⟨0, h2, hid (.inl ⟨h1, rfl⟩)⟩
    · exact ⟨80, h2, hid (.inr ⟨h1, rfl⟩)⟩
  subst hev
  clear HCK
  go_wp2_with fail
  refine C30.out.mono ?_
  rintro ev w2 ⟨⟨ba, hba, rfl⟩, hb2⟩
  have HB2 : Hid (Below G w w2) := hid (HB1.out.trans (hb2.mono (HGS.out _ HB1.out)))
  have D30 : Hid (Calls Tryd.prog 30 #[.slice a n cap, .slice na nN nc] w2 fun e w' => BI (∀ y ∈ N, y ∈ ids l) e ∧ Below w2.heap.size w2 w') := hid (by
    have := known_any a cap l (HPN.out _ HB2.out) (fun x hx => (HW2.out x hx).1) HL40.out na nc N (HPO.out _ HB2.out) HNI.out (by have := HSUM.out; omega)
    rw [HNL.out, HNN.out] at this
    exact this)
  have HBA : Hid (ba = true ↔ ∀ y ∈ F, y ∈ ids l) := hba
  clear hb2 hba C30
  go_wp2_with fail
  refine D30.out.mono ?_
  rintro ev w3 ⟨⟨bn, hbn, rfl⟩, hb3⟩
  have HB3 : Hid (Below G w w3) := hid (HB2.out.trans (hb3.mono (HGS.out _ HB2.out)))
  have HBN : Hid (bn = true ↔ ∀ y ∈ N, y ∈ ids l) := hbn
  clear hb3 hbn D30
  by_cases hall : ec = 0 ∧ ba = true ∧ bn = true
  · obtain ⟨rfl, rfl, rfl⟩ := hall
    have HOK : Hid (OkG l) := hid (by
      rcases HEC.out with ⟨h1, _⟩ | ⟨_, h1⟩
      · exact h1
      · cases h1)
    have HIF : Hid (∀ y ∈ F, y ∈ ids l) := hid (HBA.out.1 rfl)
    have HIN : Hid (∀ y ∈ N, y ∈ ids l) := hid (HBN.out.1 rfl)
    have C24 : Hid (Calls Tryd.prog 24 #[.slice a n cap, .slice fa nF fc] w3 (PostRc l F w3.heap.size n w3)) := hid (by
      have := reach_any a cap l (HPN.out _ HB3.out) (HWF.out _ HB3.out) HL40.out HPS.out HOK.out.one HOK.out.par fa fc F (HPF.out _ HB3.out) HFI.out (by have := HSUM.out; omega) HIF.out
      rw [HNL.out, HNF.out] at this
      exact this)
    clear HEC HBA HBN
    go_wp2_with fail
    refine C24.out.mono ?_
    rintro ev w4 ⟨m1, rfl, hmk1, hr1⟩
    obtain ⟨G1, HG1⟩ : ∃ K, Hid (w3.heap.size = K) := ⟨_, rfl⟩
    rw [HG1.out] at hmk1 ⊢
    have hGG1 : G ≤ G1 := by rw [← HG1.out]; exact HGS.out _ HB3.out
    have HB4 : Hid (Below G w w4) := hid (HB3.out.trans (hmk1.below.mono hGG1))
    have HM1 : Hid (LM G1 n w4 m1) := hid hmk1.lm
    have HR1 : Hid (∀ t, t < l.length → (m1.getD t false = true ↔ Rch l (· ∈ F) (l.getD t nd0).id)) := hr1
    have D24 : Hid (Calls Tryd.prog 24 #[.slice a n cap, .slice na nN nc] w4 (PostRc l N w4.heap.size n w4)) := hid (by
      have := reach_any a cap l (HPN.out _ HB4.out) (HWF.out _ HB4.out) HL40.out HPS.out HOK.out.one HOK.out.par na nc N (HPO.out _ HB4.out) HNI.out (by have := HSUM.out; omega) HIN.out
      rw [HNL.out, HNN.out] at this
      exact this)
    clear hmk1 hr1 C24
    go_wp2_with fail
    refine D24.out.mono ?_
    rintro ev w5 ⟨m2, rfl, hmk2, hr2⟩
    obtain ⟨G2, HG2⟩ : ∃ K, Hid (w4.heap.size = K) := ⟨_, rfl⟩
    rw [HG2.out] at hmk2 ⊢
    have hG12 : G1 < G2 := by rw [← HG2.out]; exact HM1.out.lt
    have HB5 : Hid (Below G w w5) := hid (HB4.out.trans (hmk2.below.mono (by omega)))
    have HM15 : Hid (LM G1 n w5 m1) := hid (HM1.out.below (by rw [HG2.out]; exact hmk2.below))
    have HM25 : Hid (LM G2 n w5 m2) := hid hmk2.lm
    have HR2 : Hid (∀ t, t < l.length → (m2.getD t false = true ↔ Rch l (· ∈ N) (l.getD t nd0).id)) := hr2
    clear hmk2 hr2 D24 HM1
    go_wp2_with fail
    go_loopg [13] n (fun gg iv wr => ∃ (i : Nat) (m : List Bool), i ≤ n ∧ gg = n - i ∧ iv = .int .i64 i ∧ Hid (LM G1 n wr m) ∧ Hid (LM G2 n wr m2) ∧ Hid (Below G w wr) ∧ Hid (∀ t, t < n → m.getD t false = if t < i then (m1.getD t false && !m2.getD t false) else m1.getD t false))
    case atStart => exact ⟨0, m1, Nat.zero_le _, rfl, rfl, HM15, HM25, HB5, hid (fun t ht => by rw [if_neg (by omega)])⟩
    case round =>
      clear HM15 HM25 HB5
      obtain ⟨i, m, hi, hgi, rfl, HMA, HMB, HB, HV⟩ := hrel
      by_cases hlt : i < n
      · have hlti : (i : Int) < (n : Int) := by omega
        obtain ⟨c1, f1⟩ := HMA.out.cell i hlt
        obtain ⟨c2, f2⟩ := HMB.out.cell i hlt
        have hmi : m.getD i false = m1.getD i false := by rw [HV.out i hlt, if_neg (by omega)]
        obtain ⟨b1, HB1x⟩ : ∃ q, Hid (m1.getD i false = q) := ⟨_, rfl⟩
        obtain ⟨b2, HB2x⟩ : ∃ q, Hid (m2.getD i false = q) := ⟨_, rfl⟩
        rw [hmi, HB1x.out] at c1
        rw [HB2x.out] at c2
        obtain ⟨h6, h7⟩ := HMA.out.set i (b1 && !b2)
        obtain ⟨w6, HW6⟩ : ∃ u, Hid (wr.setCell ⟨G1, i, none⟩ (.bool (b1 && !b2)) = u) := ⟨_, rfl⟩
        rw [HW6.out] at h6 h7
        have HMA6 : Hid (LM G1 n w6 (m.set i (b1 && !b2))) := h6
        have HMB6 : Hid (LM G2 n w6 m2) := hid (HMB.out.kept h7 (fun e => by cases e; omega))
        have HB6 : Hid (Below G w w6) := hid (HB.out.grown h7 (HGS.out _ HB.out) (fun k hk => by cases hk; exact hGG1))
        have HV6 : Hid (∀ t, t < n → (m.set i (b1 && !b2)).getD t false = if t < i + 1 then (m1.getD t false && !m2.getD t false) else m1.getD t false) := fun t ht => by
          rw [getD_setb m i t _ (by rw [HMA.out.len]; exact hlt)]
          by_cases e : t = i
          · subst e
            rw [if_pos rfl, if_pos (by omega), HB1x.out, HB2x.out]
          · rw [if_neg e, HV.out t ht]
            by_cases e2 : t < i
            · rw [if_pos e2, if_pos (by omega)]
            · rw [if_neg e2, if_neg (by omega)]
        clear h6 h7 hmi f2
        cases b1 with
        | false =>
          have hw6 : wr.setCell ⟨G1, i, none⟩ (.bool false) = w6 := HW6.out
          go_wp2
          try rw [hw6]
          go_roundg (n - (i + 1))
          case measure => omega
          case rel => exact ⟨i + 1, _, by omega, rfl, by go_num, HMA6, HMB6, HB6, HV6⟩
        | true =>
          cases b2 with
          | false =>
            have hw6 : wr.setCell ⟨G1, i, none⟩ (.bool true) = w6 := HW6.out
            go_wp2
            try rw [hw6]
            go_roundg (n - (i + 1))
            case measure => omega
            case rel => exact ⟨i + 1, _, by omega, rfl, by go_num, HMA6, HMB6, HB6, HV6⟩
          | true =>
            have hw6 : wr.setCell ⟨G1, i, none⟩ (.bool false) = w6 := HW6.out
            go_wp2
            try rw [hw6]
            go_roundg (n - (i + 1))
            case measure => omega
            case rel => exact ⟨i + 1, _, by omega, rfl, by go_num, HMA6, HMB6, HB6, HV6⟩
      · have hlti : ¬ (i : Int) < (n : Int) := by omega
        obtain ⟨f, hf⟩ : ∃ f : Nd → Bool, Sel l F N f := by
          classical
          exact ⟨fun x => decide (Rch l (· ∈ F) x.id ∧ ¬ Rch l (· ∈ N) x.id), fun x => by simp only [decide_eq_true_eq]⟩
        obtain ⟨L, HLL⟩ : ∃ L, Hid (l.filter f = L) := ⟨_, rfl⟩
        have HSel : Hid (Sel l F N f) := hf
        have HLl : Hid (∀ x ∈ L, x ∈ l) := fun x hx => by rw [← HLL.out] at hx; exact (List.mem_filter.1 hx).1
        have HLn : Hid ((ids L).Nodup) := hid (by rw [← HLL.out]; exact nodup_filter f HOK.out.one)
        have HLa : Hid (Acy L) := hid (by rw [← HLL.out]; exact Acy.sub f HOK.out.acy)
        have HLF0 : Hid (Lft l L m []) := fun t ht => by
          rw [HNL.out] at ht
          rw [HV.out t ht, if_pos (by omega), ← HLL.out, List.mem_filter]
          have e1 := HR1.out t (by rw [HNL.out]; exact ht)
          have e2 := HR2.out t (by rw [HNL.out]; exact ht)
          have e3 := HSel.out (l.getD t nd0)
          rw [e3, ← e1, ← e2]
          have e4 : l.getD t nd0 ∈ l := getD_mem l t _ (by rw [HNL.out]; exact ht)
          have key : ∀ (p q : Bool) (A B : Prop), A → B → ((p && !q) = true ↔ ((A ∧ (p = true ∧ ¬ q = true)) ∧ B)) := by
            intro p q A B hA hB
            cases p <;> cases q <;> simp [hA, hB]
          exact key _ _ _ _ e4 (by simp)
        have HBI0 : Hid (Bi 41 wr wr (G2 + 1) (.slice none 0 0) []) := hid (bx_nil 41 wr _ (by have := HMB.out.lt; omega))
        have HORD0 : Hid (OrdP L []) := hid (ordp_nil L)
        clear HV HMB HR1 HR2 hf
        go_wp2_with fail
        clear hi hgi hlti hlt
        go_loopg [14] (m.count true) (fun gg vov wr => ∃ (m : List Bool) (I : List (List Int)) (vo : Value), vo = vov ∧ gg = m.count true ∧ Hid (LM G1 n wr m) ∧ Hid (Below G w wr) ∧ Hid (Bi 41 wr wr (G2 + 1) vo I) ∧ Hid (OrdP L I) ∧ Hid (Lft l L m I))
        case atStart => exact ⟨m, [], _, rfl, rfl, HMA, HB, HBI0, HORD0, HLF0⟩
        case round =>
          clear HMA HB HBI0 HORD0 HLF0
          obtain ⟨m, I, vo, hvo, hgg, HMA, HB, HBI, HORD, HLF⟩ := hrel
          subst hvo
          have C31 : Hid (Calls Tryd.prog 31 #[.slice a n cap, .slice (some ⟨G1, 0, none⟩) n n] wr (PostNx l m wr)) := hid (by
            have := next_any a cap l (HPN.out _ HB.out) (HWF.out _ HB.out) HL40.out HPS.out G1 m (fun j hj => (HMA.out.cell j (by rw [← HNL.out]; exact hj)).1) HMA.out.lt
            rw [HNL.out] at this
            exact this)
          go_wp2_with fail
          refine C31.out.mono ?_
          rintro ev w6 ⟨hb6, bv, hbt, rfl⟩
          have HB6 : Hid (Below G w w6) := hid (HB.out.trans (hb6.mono (HGS.out _ HB.out)))
          have HMA6 : Hid (LM G1 n w6 m) := hid (HMA.out.below hb6)
          have HBI6 : Hid (Bi 41 w6 w6 (G2 + 1) vo I) := hid (HBI.out.moveB hb6)
          clear hb6 C31
          rcases hbt with ⟨rfl, hno⟩ | ⟨t, ht, rfl, hfr, hbest⟩
          · have HOI : Hid (OrdI (l.filter f) I) := hid (by rw [HLL.out]; exact HLF.out.stop HLl.out HLa.out HORD.out hno)
            clear hno
            go_wp2
            go_ret2
            exact ⟨by rw [HG.out]; exact HB6.out, .inl ⟨⟨HOK.out, fun y hy => (List.mem_append.1 hy).elim (HIF.out y) (HIN.out y)⟩, f, vo, I, G2 + 1, HSel.out, HOI.out, rfl, HBI6.out⟩⟩
          · have htn : t < n := by rw [← HNL.out]; exact ht
            have htni : (t : Int) < (n : Int) := by omega
            have ht0 : ¬ (t : Int) < 0 := by omega
            obtain ⟨b, off, hae, hbG⟩ := HPL.out (by omega)
            subst hae
            obtain ⟨x, HX⟩ : ∃ x, Hid (l.getD t nd0 = x) := ⟨_, rfl⟩
            have hgo := HLF.out.go HOK.out.one HLn.out HLl.out (by rw [HMA.out.len, HNL.out]) HORD.out ht hfr hbest
            rw [HX.out] at hgo
            have HORD2 : Hid (OrdP L (I ++ [x.id])) := hgo.1
            have HLF2 : Hid (Lft l L (m.set t false) (I ++ [x.id])) := hgo.2
            have hcnt := count_setF m t (by rw [HMA.out.len]; exact htn) hfr.1
            have HXM : Hid (x ∈ l) := hid (by rw [← HX.out]; exact getD_mem l t _ ht)
            have HXW : Hid (IdW x.id) := HW2.out x HXM.out
            obtain ⟨c1, f1⟩ := HMA6.out.cell t htn
            obtain ⟨h7, h8⟩ := HMA6.out.set t false
            obtain ⟨w7, HW7⟩ : ∃ u, Hid (w6.setCell ⟨G1, t, none⟩ (.bool false) = u) := ⟨_, rfl⟩
            rw [HW7.out] at h7 h8
            have hw7 : w6.setCell ⟨G1, t, none⟩ (.bool false) = w7 := HW7.out
            have HMA7 : Hid (LM G1 n w7 (m.set t false)) := h7
            have HB7 : Hid (Below G w w7) := hid (HB6.out.grown h8 (HGS.out _ HB6.out) (fun k hk => by cases hk; exact hGG1))
            have hvob : ∀ k, vo.ownBlock = some k → G2 + 1 ≤ k := fun k hk => (own_lt HBI6.out.own k hk).1
            have HBI7 : Hid (Bi 41 w7 w7 (G2 + 1) vo I) := hid (HBI6.out.move h8 (by
              cases hv : vo.ownBlock with
              | none => exact .inl rfl
              | some k => exact .inr (fun e => by cases e; have := hvob G1 hv; omega)))
            obtain ⟨RI, HRI⟩ : ∃ R : List Value, Hid (row .u8 x.id = R) := ⟨_, rfl⟩
            have hiI : (Tryd.prog.info? 41).map (·.size) = some RI.length := by rw [← HRI.out, row_len, HXW.out.1]; exact Tryd.size41
            have RR : Hid (w7.rangeAt b (off + t * 22) RI) := hid (by
              obtain ⟨b', off', e1, _, e3⟩ := (HPN.out w7 HB7.out).at_ (by omega)
              cases e1
              have := nd_id (e3 t ht)
              rw [HX.out, HRI.out] at this
              exact this)
            obtain ⟨K7, HK7⟩ : ∃ K, Hid (w7.heap.size = K) := ⟨_, rfl⟩
            have HBLD : Hid ((Instr.buildSlice 35 1 #[(0, .agg RI.toArray)]).run Tryd.prog w7 = .ok (.slice (some ⟨K7, 0, none⟩) 1 1) (w7.alloc (.cells RI.toArray 41))) := hid (by rw [← HK7.out, ← HRI.out]; exact run_build35 x.id HXW.out.1 w7)
            have hb8 : Below w7.heap.size w7 (w7.alloc (.cells RI.toArray 41)) := (Below.refl _ w7).alloc (Nat.le_refl _) _
            have HBI8 : Hid (Bi 41 (w7.alloc (.cells RI.toArray 41)) (w7.alloc (.cells RI.toArray 41)) (G2 + 1) vo I) := hid (HBI7.out.moveB hb8)
            have HMA8 : Hid (LM G1 n (w7.alloc (.cells RI.toArray 41)) (m.set t false)) := hid (HMA7.out.below hb8)
            have HB8 : Hid (Below G w (w7.alloc (.cells RI.toArray 41))) := hid (HB7.out.trans (hb8.mono (HGS.out _ HB7.out)))
            have HP8 : Hid (Pa (w7.alloc (.cells RI.toArray 41)) (some ⟨K7, 0, none⟩) 1 [x.id]) := hid (by rw [← HK7.out, ← HRI.out]; exact pa_one w7 x.id 41)
            have HSZ : Hid (I.length + [x.id].length ≤ 30000) := hid (by
              have h1 := nodup_sub I (ids L) HORD.out.one HORD.out.sub
              have h2 : (ids L).length ≤ 40 := by
                unfold ids
                rw [List.length_map, ← HLL.out]
                exact Nat.le_trans (List.length_filter_le _ _) HL40.out
              simp only [List.length_cons, List.length_nil]
              omega)
            have HONE1 : Hid (∀ z ∈ [x.id], (row .u8 z).length = 20) := fun z hz => by
              have : z = x.id := by simpa using hz
              rw [this, row_len]; exact HXW.out.1
            have hG2w : G2 + 1 ≤ (w7.alloc (.cells RI.toArray 41)).heap.size := HBI8.out.le
            clear h7 h8 hgo hfr hbest hb8 ht
            go_wp2_with (first
              | refine wpList_load_mid rfl 41 _ rfl b (off + t * 22) rfl RI _ RR.out Tryd.underlying41 rfl hiI ?_
              | refine wpList_bS rfl 35 1 _ rfl (.agg RI.toArray) _ rfl HBLD.out ?_
              | (refine wpList_bx_sl (d := []) rfl _ _ 35 41 Tryd.underlying35 Tryd.info41 rfl (by decide) (by decide) (fun z => row_one _ z) rfl (G2 + 1) vo _ rfl HBI8.out (some ⟨K7, 0, none⟩) 1 [x.id] rfl HP8.out HONE1.out HSZ.out ?_; intro v9 w9 hb9 hg9)
              | fail)
            have HBI9 : Hid (Bi 41 w9 w9 (G2 + 1) v9 (I ++ [x.id])) := hid hb9.re
            have HMA9 : Hid (LM G1 n w9 (m.set t false)) := hid (HMA8.out.kept hg9 (fun e => by have := hvob G1 e.symm; omega))
            have HB9 : Hid (Below G w w9) := hid (HB8.out.grown hg9 (HGS.out _ HB8.out) (fun k hk => by have := hvob k hk; omega))
            clear hb9 hg9
            go_roundg ((m.set t false).count true)
            case measure => omega
            case rel => exact ⟨_, _, v9, rfl, rfl, HMA9, HB9, HBI9, HORD2, HLF2⟩
  · have HNO : Hid (¬ (OkG l ∧ ∀ y ∈ F ++ N, y ∈ ids l)) := fun h => hall ⟨by
        rcases HEC.out with ⟨_, h1⟩ | ⟨h1, _⟩
        · exact h1
        · exact absurd h.1 h1, HBA.out.2 (fun y hy => h.2 y (by simp [hy])), HBN.out.2 (fun y hy => h.2 y (by simp [hy]))⟩
    have hcase : ec = 80 ∨ (ec = 0 ∧ ba = false) ∨ (ec = 0 ∧ ba = true ∧ bn = false) := by
      rcases HEC.out with ⟨_, h1⟩ | ⟨_, h1⟩
      · subst h1
        cases ba with
        | false => exact .inr (.inl ⟨rfl, rfl⟩)
        | true =>
          cases bn with
          | false => exact .inr (.inr ⟨rfl, rfl, rfl⟩)
          | true => exact absurd ⟨rfl, rfl, rfl⟩ hall
      · exact .inl h1
    clear hall HEC HBA HBN
    rcases hcase with rfl | ⟨rfl, rfl⟩ | ⟨rfl, rfl, rfl⟩
    all_goals
      go_wp2
      go_ret2
      exact ⟨by rw [HG.out]; exact HB3.out, .inr ⟨HNO.out, rfl⟩⟩
end Go.Proofs.YtjgjeedablgmeaaDoor
