/- The order of nodes, by their ids, plainly. -/
import Derived.Test.YtjgjeedablgmeaaDoorGrT
import Derived.Test.YtjgjeedablgmeaaDoorGrZ
namespace Go.Proofs.YtjgjeedablgmeaaDoor
open Go.RowKit
set_option linter.unusedVariables false
set_option linter.unusedSimpArgs false
/-- Ids I of nodes of L, in their order, so far. -/
structure OrdP (L : List Nd) (I : List (List Int)) : Prop where
  sub : ∀ y ∈ I, y ∈ ids L
  one : I.Nodup
  ord : ∀ (i : Nat) (y : List Int), I[i]? = some y → ∀ c ∈ L, y ∈ c.ps → c.id ∈ I.take i
  best : ∀ (i : Nat) (x : Nd), x ∈ L → I[i]? = some x.id → ∀ z ∈ L, z.id ∉ I.take i → (∀ c ∈ L, z.id ∈ c.ps → c.id ∈ I.take i) → ¬ Ah z x
/-- All of them. -/
def OrdI (L : List Nd) (I : List (List Int)) : Prop := OrdP L I ∧ ∀ y ∈ ids L, y ∈ I
theorem ordp_nil (L : List Nd) : OrdP L [] := ⟨fun y h => (by cases h), List.nodup_nil, fun i y h => by simp at h, fun i x _ h => by simp at h⟩
theorem snoc_at {I : List (List Int)} {u y : List Int} {i : Nat} (h : (I ++ [u])[i]? = some y) : (i < I.length ∧ I[i]? = some y ∧ (I ++ [u]).take i = I.take i) ∨ (i = I.length ∧ y = u ∧ (I ++ [u]).take i = I) := by
  by_cases hi : i < I.length
  · rw [List.getElem?_append_left hi] at h
    exact .inl ⟨hi, h, List.take_append_of_le_length (by omega)⟩
  · rw [List.getElem?_append_right (by omega)] at h
    have h2 := (List.getElem?_eq_some_iff.1 h).1
    simp at h2
    have e : i = I.length := by omega
    subst e
    refine .inr ⟨rfl, by simpa using h.symm, ?_⟩
    rw [List.take_append_of_le_length (Nat.le_refl _), List.take_length]
theorem OrdP.snoc {L : List Nd} {I : List (List Int)} {x : Nd} (hl : (ids L).Nodup) (h : OrdP L I) (hx : x ∈ L) (hn : x.id ∉ I) (hc : ∀ c ∈ L, x.id ∈ c.ps → c.id ∈ I) (hb : ∀ z ∈ L, z.id ∉ I → (∀ c ∈ L, z.id ∈ c.ps → c.id ∈ I) → ¬ Ah z x) : OrdP L (I ++ [x.id]) := by
  refine ⟨fun y hy => ?_, ?_, fun i y hy c hcL hp => ?_, fun i z hz hi u hu h1 h2 => ?_⟩
  · rcases List.mem_append.1 hy with h1 | h1
    · exact h.sub y h1
    · rw [show y = x.id by simpa using h1]; exact mem_ids hx
  · rw [List.nodup_append]
    refine ⟨h.one, by simp, fun a ha b hb2 e => ?_⟩
    have : b = x.id := by simpa using hb2
    rw [e, this] at ha
    exact hn ha
  · rcases snoc_at hy with ⟨_, h1, h2⟩ | ⟨_, h1, h2⟩
    · rw [h2]; exact h.ord i y h1 c hcL hp
    · rw [h2]; exact hc c hcL (by rw [← h1]; exact hp)
  · rcases snoc_at hi with ⟨_, e1, e2⟩ | ⟨_, e1, e2⟩
    · rw [e2] at h1 h2
      exact h.best i z hz e1 u hu h1 h2
    · rw [e2] at h1 h2
      have : z = x := ids_inj hl hz hx e1
      subst this
      exact hb u hu h1 h2
theorem ring_of {l R : List Nd} (hRl : ∀ x ∈ R, x ∈ l) (hup : ∀ x ∈ R, ∃ c ∈ R, x.id ∈ c.ps) (ha : Acy l) : R = [] := by
  classical
  have main : ∀ (m : Nat) (x : Nd), x ∈ R → l.length - l.countP (fun y => decide (Rch l (· ∈ x.ps) y.id)) < m → False := by
    intro m
    induction m with
    | zero => intro x _ hm; omega
    | succ m ih =>
      intro x hx hm
      obtain ⟨c, hc, hp⟩ := hup x hx
      refine ih c hc ?_
      have hlt : l.countP (fun y => decide (Rch l (· ∈ x.ps) y.id)) < l.countP (fun y => decide (Rch l (· ∈ c.ps) y.id)) := by
        refine countP_lt _ _ l (fun y hy h1 => ?_) x (hRl x hx) ?_ ?_
        · have h2 := of_decide_eq_true h1
          refine decide_eq_true (h2.trans (fun z hz => ?_))
          exact (Rch.of (S := (· ∈ c.ps)) hp).step ⟨x, hRl x hx, rfl, hz⟩
        · exact decide_eq_true (Rch.of hp)
        · exact decide_eq_false (ha x (hRl x hx))
      have hle : l.countP (fun y => decide (Rch l (· ∈ c.ps) y.id)) ≤ l.length := List.countP_le_length
      omega
  cases R with
  | nil => rfl
  | cons x R => exact (main _ x (by simp) (Nat.lt_succ_self _)).elim
/-- None that is left may come: none is left. -/
theorem OrdP.full {L : List Nd} {I : List (List Int)} (h : OrdP L I) (ha : Acy L) (hno : ∀ z ∈ L, z.id ∉ I → ∃ c ∈ L, z.id ∈ c.ps ∧ c.id ∉ I) : OrdI L I := by
  classical
  refine ⟨h, fun y hy => ?_⟩
  obtain ⟨x, hx, rfl⟩ := List.mem_map.1 hy
  have hR : L.filter (fun z => decide (z.id ∉ I)) = [] := ring_of (fun z hz => (List.mem_filter.1 hz).1) (fun z hz => by
    obtain ⟨h1, h2⟩ := List.mem_filter.1 hz
    obtain ⟨c, c1, c2, c3⟩ := hno z h1 (of_decide_eq_true h2)
    exact ⟨c, List.mem_filter.2 ⟨c1, decide_eq_true c3⟩, c2⟩) ha
  apply Classical.byContradiction
  intro hn
  have : x ∈ L.filter (fun z => decide (z.id ∉ I)) := List.mem_filter.2 ⟨hx, decide_eq_true hn⟩
  rw [hR] at this
  cases this
theorem Ed.sub {l : List Nd} (f : Nd → Bool) {x y : List Int} (h : Ed (l.filter f) x y) : Ed l x y := by
  obtain ⟨n, h1, h2⟩ := h
  exact ⟨n, (List.mem_filter.1 h1).1, h2⟩
theorem Rch.sub {l : List Nd} (f : Nd → Bool) {S : List Int → Prop} {y : List Int} (h : Rch (l.filter f) S y) : Rch l S y := h (Rch l S) (fun x hx => Rch.of hx) (fun x z hx he => hx.step (Ed.sub f he))
theorem Acy.sub {l : List Nd} (f : Nd → Bool) (h : Acy l) : Acy (l.filter f) := fun n hn hr => h n (List.mem_filter.1 hn).1 hr.sub
theorem nodup_filter {l : List Nd} (f : Nd → Bool) (h : (ids l).Nodup) : (ids (l.filter f)).Nodup := List.Nodup.sublist (List.Sublist.map _ List.filter_sublist) h
theorem ids_take (D : List Nd) (i : Nat) : (ids D).take i = ids (D.take i) := by unfold ids; rw [List.map_take]
theorem mem_ids_take {L D : List Nd} (hl : (ids L).Nodup) (hD : ∀ x ∈ D, x ∈ L) {c : Nd} (hc : c ∈ L) (i : Nat) : c.id ∈ (ids D).take i ↔ c ∈ D.take i := by
  rw [ids_take]
  constructor
  · intro h
    obtain ⟨x, h1, h2⟩ := List.mem_map.1 h
    have : x = c := ids_inj hl (hD x (List.mem_of_mem_take h1)) hc h2
    rw [← this]; exact h1
  · exact mem_ids
/-- What the program's order is. -/
theorem ordi_ks {L D R : List Nd} (hl : (ids L).Nodup) (ha : Acy L) (h : KS L D R []) (hb : Bst L D) : OrdI L (ids D) := by
  have hR : R = [] := Classical.byContradiction (fun e => h.ring hl e ha)
  subst hR
  have hp : L.Perm D := by simpa using h.perm
  have hD : ∀ x ∈ D, x ∈ L := fun x hx => hp.mem_iff.2 hx
  refine ⟨⟨fun y hy => (ids_perm hp).mem_iff.2 hy, (ids_perm hp).nodup_iff.1 hl, fun i y hy c hc hpc => ?_, fun i x hx hi z hz h1 h2 => ?_⟩, fun y hy => (ids_perm hp).mem_iff.1 hy⟩
  · unfold ids at hy
    rw [List.getElem?_map] at hy
    cases hx : D[i]? with
    | none => rw [hx] at hy; cases hy
    | some x =>
      rw [hx] at hy
      have e : x.id = y := by simpa using hy
      obtain ⟨j, hj, hjc⟩ := h.ord i x hx c hc (by rw [e]; exact hpc)
      refine (mem_ids_take hl hD hc i).2 ?_
      have := List.mem_of_getElem? (l := D.take i) (i := j) (a := c) (by rw [List.getElem?_take_of_lt hj]; exact hjc)
      exact this
  · unfold ids at hi
    rw [List.getElem?_map] at hi
    cases hx2 : D[i]? with
    | none => rw [hx2] at hi; cases hi
    | some x2 =>
      rw [hx2] at hi
      have e : x2.id = x.id := by simpa using hi
      have e2 : x2 = x := ids_inj hl (hD x2 (List.mem_of_getElem? hx2)) hx e
      subst e2
      refine hb i x2 hx2 z hz (fun h3 => h1 ((mem_ids_take hl hD hz i).2 h3)) (fun c hc hp2 => (mem_ids_take hl hD hc i).1 (h2 c hc hp2))
theorem bytesOf_inj {x y : List Int} (hx : IdW x) (hy : IdW y) (h : Lib.bytesOf x = Lib.bytesOf y) : x = y := by
  have key : ∀ (x y : List Int), IsB x → IsB y → Lib.bytesOf x = Lib.bytesOf y → x = y := by
    intro x
    induction x with
    | nil => intro y _ _ h; cases y with
      | nil => rfl
      | cons b s => simp [Lib.bytesOf] at h
    | cons a r ih =>
      intro y hx hy h
      cases y with
      | nil => simp [Lib.bytesOf] at h
      | cons b s =>
        have ha := hx a (by simp)
        have hb := hy b (by simp)
        have h2 := ih s (fun z hz => hx z (by simp [hz])) (fun z hz => hy z (by simp [hz])) (by simp only [Lib.bytesOf, List.map_cons, List.cons.injEq] at h ⊢; exact h.2)
        have h3 : a = b := by
          simp only [Lib.bytesOf, List.map_cons, List.cons.injEq] at h
          have := congrArg UInt8.toNat h.1
          simp at this
          omega
        rw [h2, h3]
  exact key x y hx.2 hy.2 h
theorem ah_tri {x y : Nd} (hx : IdW x.id) (hy : IdW y.id) (h1 : ¬ Ah x y) (h2 : ¬ Ah y x) : x.id = y.id := by
  unfold Ah at h1 h2
  have a1 : ¬ y.tm < x.tm := fun h => h1 (.inl h)
  have a2 : ¬ x.tm < y.tm := fun h => h2 (.inl h)
  have e : x.tm = y.tm := by omega
  have b1 : ¬ Lib.bytesOf y.id < Lib.bytesOf x.id := fun h => h1 (.inr ⟨e, h⟩)
  have b2 : ¬ Lib.bytesOf x.id < Lib.bytesOf y.id := fun h => h2 (.inr ⟨e.symm, h⟩)
  exact bytesOf_inj hx hy (List.le_antisymm (List.not_lt.1 b1) (List.not_lt.1 b2))
theorem OrdI.len {L : List Nd} {I : List (List Int)} (hl : (ids L).Nodup) (h : OrdI L I) : I.length = (ids L).length := by
  have h1 := nodup_sub I (ids L) h.1.one h.1.sub
  have h2 := nodup_sub (ids L) I hl h.2
  omega
/-- There is one order. -/
theorem OrdI.uniq {L : List Nd} {I J : List (List Int)} (hl : (ids L).Nodup) (hw : ∀ x ∈ L, IdW x.id) (h : OrdI L I) (k : OrdI L J) : I = J := by
  have hlen : I.length = J.length := by rw [h.len hl, k.len hl]
  have main : ∀ i, i ≤ I.length → I.take i = J.take i := by
    intro i
    induction i with
    | zero => intro _; simp
    | succ i ih =>
      intro hi
      have e := ih (by omega)
      have hxI : I[i]? = some (I.getD i []) := by rw [List.getD_eq_getElem?_getD, List.getElem?_eq_getElem (by omega)]; rfl
      have hxJ : J[i]? = some (J.getD i []) := by rw [List.getD_eq_getElem?_getD, List.getElem?_eq_getElem (by omega)]; rfl
      obtain ⟨x, hx, ex⟩ := List.mem_map.1 (h.1.sub _ (List.mem_of_getElem? hxI))
      obtain ⟨y, hy, ey⟩ := List.mem_map.1 (k.1.sub _ (List.mem_of_getElem? hxJ))
      rw [← show x.id = _ from ex] at hxI
      rw [← show y.id = _ from ey] at hxJ
      have nt : ∀ (M : List (List Int)) (u : List Int), M.Nodup → M[i]? = some u → u ∉ M.take i := fun M u hM hu hm => by
        obtain ⟨j, hj⟩ := List.getElem?_of_mem hm
        have hj2 := (List.getElem?_eq_some_iff.1 hj).1
        rw [List.length_take] at hj2
        rw [List.getElem?_take_of_lt (by omega)] at hj
        have := (List.getElem?_inj (by omega) hM).1 (hj.trans hu.symm)
        omega
      have b1 := h.1.best i x hx hxI y hy (by rw [e]; exact nt J y.id k.1.one hxJ) (fun c hc hp => by rw [e]; exact k.1.ord i y.id hxJ c hc hp)
      have b2 := k.1.best i y hy hxJ x hx (by rw [← e]; exact nt I x.id h.1.one hxI) (fun c hc hp => by rw [← e]; exact h.1.ord i x.id hxI c hc hp)
      have exy := ah_tri (hw x hx) (hw y hy) b2 b1
      rw [take_snocG [] I i (by omega), take_snocG [] J i (by omega), e, ← show x.id = _ from ex, ← show y.id = _ from ey, exy]
  have := main I.length (Nat.le_refl _)
  rwa [List.take_length, hlen, List.take_length] at this
/-- The same nodes, but for where their parents lie. -/
def KE (L L' : List Nd) : Prop := (∀ x ∈ L, ∃ y ∈ L', key y = key x) ∧ ∀ y ∈ L', ∃ x ∈ L, key x = key y
theorem KE.symm {L L' : List Nd} (h : KE L L') : KE L' L := ⟨h.2, h.1⟩
theorem key_ah {x x' z z' : Nd} (hx : key x = key x') (hz : key z = key z') : Ah z x ↔ Ah z' x' := by
  unfold key at hx hz
  have x1 : x.id = x'.id := congrArg (·.1) hx
  have x2 : x.tm = x'.tm := congrArg (·.2.2) hx
  have z1 : z.id = z'.id := congrArg (·.1) hz
  have z2 : z.tm = z'.tm := congrArg (·.2.2) hz
  unfold Ah
  rw [x1, x2, z1, z2]
theorem key_id' {x y : Nd} (h : key x = key y) : x.id = y.id := congrArg (·.1) h
theorem key_ps {x y : Nd} (h : key x = key y) : x.ps = y.ps := congrArg (·.2.1) h
theorem KE.ids {L L' : List Nd} (h : KE L L') (y : List Int) : y ∈ ids L ↔ y ∈ ids L' := by
  constructor
  · intro hy
    obtain ⟨x, hx, rfl⟩ := List.mem_map.1 hy
    obtain ⟨z, hz, e⟩ := h.1 x hx
    rw [show x.id = z.id from (key_id' e).symm]; exact mem_ids hz
  · intro hy
    obtain ⟨x, hx, rfl⟩ := List.mem_map.1 hy
    obtain ⟨z, hz, e⟩ := h.2 x hx
    rw [show x.id = z.id from (key_id' e).symm]; exact mem_ids hz
theorem OrdI.key {L L' : List Nd} {I : List (List Int)} (hk : KE L L') (h : OrdI L I) : OrdI L' I := by
  refine ⟨⟨fun y hy => (hk.ids y).1 (h.1.sub y hy), h.1.one, fun i y hy c hc hp => ?_, fun i x hx hi z hz h1 h2 => ?_⟩, fun y hy => h.2 y ((hk.ids y).2 hy)⟩
  · obtain ⟨c0, hc0, e⟩ := hk.2 c hc
    have := h.1.ord i y hy c0 hc0 (by rw [key_ps e]; exact hp)
    rwa [key_id' e] at this
  · obtain ⟨x0, hx0, ex⟩ := hk.2 x hx
    obtain ⟨z0, hz0, ez⟩ := hk.2 z hz
    rw [← key_ah ex ez]
    refine h.1.best i x0 hx0 (by rw [key_id' ex]; exact hi) z0 hz0 (by rw [key_id' ez]; exact h1) (fun c hc hp => ?_)
    obtain ⟨c1, hc1, ec⟩ := hk.1 c hc
    have := h2 c1 hc1 (by rw [← key_id' ez, key_ps ec]; exact hp)
    rwa [key_id' ec] at this
theorem KE.of_map {l l' : List Nd} (h : l'.map key = l.map key) : KE l l' :=
  ⟨fun n hn => by
    have : key n ∈ l'.map key := by rw [h]; exact List.mem_map.2 ⟨n, hn, rfl⟩
    obtain ⟨n', h1, h2⟩ := List.mem_map.1 this
    exact ⟨n', h1, h2⟩, fun n hn => by
    have : key n ∈ l.map key := by rw [← h]; exact List.mem_map.2 ⟨n, hn, rfl⟩
    obtain ⟨n', h1, h2⟩ := List.mem_map.1 this
    exact ⟨n', h1, h2⟩⟩
theorem KE.ed {l l' : List Nd} (h : KE l l') (x y : List Int) : Ed l x y ↔ Ed l' x y :=
  ⟨fun ⟨n, h1, h2, h3⟩ => by
    obtain ⟨n', k1, k2⟩ := h.1 n h1
    exact ⟨n', k1, (key_id' k2).trans h2, by rw [key_ps k2]; exact h3⟩, fun ⟨n, h1, h2, h3⟩ => by
    obtain ⟨n', k1, k2⟩ := h.2 n h1
    exact ⟨n', k1, (key_id' k2).trans h2, by rw [key_ps k2]; exact h3⟩⟩
theorem KE.rch {l l' : List Nd} (h : KE l l') (S : List Int → Prop) (y : List Int) : Rch l S y ↔ Rch l' S y := ⟨Rch.congr h.ed S y, Rch.congr (fun x y => (h.ed x y).symm) S y⟩
theorem KE.filter {l l' : List Nd} (h : KE l l') {f g : Nd → Bool} (hfg : ∀ x y, key x = key y → f x = g y) : KE (l.filter f) (l'.filter g) :=
  ⟨fun x hx => by
    obtain ⟨h1, h2⟩ := List.mem_filter.1 hx
    obtain ⟨y, k1, k2⟩ := h.1 x h1
    exact ⟨y, List.mem_filter.2 ⟨k1, by rw [← hfg x y k2.symm]; exact h2⟩, k2⟩, fun y hy => by
    obtain ⟨h1, h2⟩ := List.mem_filter.1 hy
    obtain ⟨x, k1, k2⟩ := h.2 y h1
    exact ⟨x, List.mem_filter.2 ⟨k1, by rw [hfg x y k2]; exact h2⟩, k2⟩⟩
theorem rch_in {l : List Nd} {S : List Int → Prop} (hpar : ∀ n ∈ l, ∀ p ∈ n.ps, p ∈ ids l) (hS : ∀ y, S y → y ∈ ids l) (y : List Int) (h : Rch l S y) : y ∈ ids l := h (· ∈ ids l) hS (fun x z _ he => by
  obtain ⟨n, hn, _, e2⟩ := he
  exact hpar n hn z e2)
end Go.Proofs.YtjgjeedablgmeaaDoor
