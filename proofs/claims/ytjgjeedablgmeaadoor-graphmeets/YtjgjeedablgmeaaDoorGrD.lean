/- Nodes, plainly: what is reached, what a graph is, and what it means to take nodes one behind the other when no child waits. -/
import Derived.Test.YtjgjeedablgmeaaDoorGrC
namespace Go.Proofs.YtjgjeedablgmeaaDoor
open Go.RowKit
set_option linter.unusedVariables false
set_option linter.unusedSimpArgs false
/-- A node: what it says, and where its parents lie. -/
structure Nd where
  id : List Int
  ps : List (List Int)
  pa : Option Addr
  pc : Nat
  tm : Int
def nd0 : Nd := ⟨z20, [], none, 0, 0⟩
def Ed (l : List Nd) (x y : List Int) : Prop := ∃ n ∈ l, n.id = x ∧ y ∈ n.ps
def Rch (l : List Nd) (S : List Int → Prop) (y : List Int) : Prop := ∀ P : List Int → Prop, (∀ x, S x → P x) → (∀ x z, P x → Ed l x z → P z) → P y
theorem Rch.of {l : List Nd} {S : List Int → Prop} {x : List Int} (h : S x) : Rch l S x := fun P a _ => a x h
theorem Rch.step {l : List Nd} {S : List Int → Prop} {x y : List Int} (h : Rch l S x) (e : Ed l x y) : Rch l S y := fun P a b => b x y (h P a b) e
theorem Rch.trans {l : List Nd} {S T : List Int → Prop} {y : List Int} (h : Rch l S y) (hs : ∀ x, S x → Rch l T x) : Rch l T y := h (Rch l T) hs (fun x z hx e => hx.step e)
def ids (l : List Nd) : List (List Int) := l.map (·.id)
def Acy (l : List Nd) : Prop := ∀ n ∈ l, ¬ Rch l (· ∈ n.ps) n.id
/-- Are nodes a graph? -/
structure OkG (l : List Nd) : Prop where
  one : (ids l).Nodup
  par : ∀ n ∈ l, ∀ p ∈ n.ps, p ∈ ids l
  acy : Acy l
theorem mem_ids {l : List Nd} {x : Nd} (h : x ∈ l) : x.id ∈ ids l := List.mem_map.2 ⟨x, h, rfl⟩
theorem ids_inj {l : List Nd} (h : (ids l).Nodup) {x y : Nd} (hx : x ∈ l) (hy : y ∈ l) (e : x.id = y.id) : x = y := by
  induction l with
  | nil => cases hx
  | cons a r ih =>
    have h2 := List.nodup_cons.1 h
    rcases List.mem_cons.1 hx with rfl | hx' <;> rcases List.mem_cons.1 hy with rfl | hy'
    · rfl
    · exact absurd (by show x.id ∈ ids r; rw [e]; exact mem_ids hy') h2.1
    · exact absurd (by show y.id ∈ ids r; rw [← e]; exact mem_ids hx') h2.1
    · exact ih h2.2 hx' hy'
theorem ids_idx {l : List Nd} (h : (ids l).Nodup) {i j : Nat} {x y : Nd} (hx : l[i]? = some x) (hy : l[j]? = some y) (e : x.id = y.id) : i = j := by
  have h1 : (ids l)[i]? = some x.id := by unfold ids; rw [List.getElem?_map, hx]; rfl
  have h2 : (ids l)[j]? = some x.id := by unfold ids; rw [List.getElem?_map, hy, e]; rfl
  have hi := (List.getElem?_eq_some_iff.1 h1).1
  exact (List.getElem?_inj hi h).1 (h1.trans h2.symm)
/-- How often nodes name an id. -/
def cnt (l : List Nd) (p : List Int) : Nat := (l.map (fun n => n.ps.count p)).sum
theorem cnt_nil (p : List Int) : cnt [] p = 0 := rfl
theorem cnt_cons (n : Nd) (l : List Nd) (p : List Int) : cnt (n :: l) p = n.ps.count p + cnt l p := by simp [cnt]
theorem cnt_app (l m : List Nd) (p : List Int) : cnt (l ++ m) p = cnt l p + cnt m p := by simp [cnt]
theorem cnt_perm {l m : List Nd} (h : l.Perm m) (p : List Int) : cnt l p = cnt m p := by
  unfold cnt
  exact (h.map _).sum_nat
theorem cnt_pos {l : List Nd} {p : List Int} : cnt l p ≠ 0 ↔ ∃ c ∈ l, p ∈ c.ps := by
  induction l with
  | nil => simp [cnt_nil]
  | cons n r ih =>
    rw [cnt_cons]
    constructor
    · intro h
      by_cases h2 : p ∈ n.ps
      · exact ⟨n, by simp, h2⟩
      · rw [List.count_eq_zero_of_not_mem h2, Nat.zero_add] at h
        obtain ⟨c, h3, h4⟩ := ih.1 h
        exact ⟨c, by simp [h3], h4⟩
    · rintro ⟨c, h3, h4⟩
      rcases List.mem_cons.1 h3 with rfl | h3
      · have := List.count_pos_iff.2 h4
        omega
      · have := ih.2 ⟨c, h3, h4⟩
        omega
/-- D has been taken, R is left, Q are those of R that may come. -/
structure KS (l D R Q : List Nd) : Prop where
  perm : l.Perm (D ++ R)
  qin : ∀ x ∈ Q, x ∈ R
  qone : (ids Q).Nodup
  inn : ∀ x ∈ R, x ∈ Q ↔ cnt R x.id = 0
  done : ∀ x ∈ D, cnt R x.id = 0
  ord : ∀ (i : Nat) (x : Nd), D[i]? = some x → ∀ c ∈ l, x.id ∈ c.ps → ∃ j, j < i ∧ D[j]? = some c
theorem ks_start (l Q : List Nd) (hq : ∀ x, x ∈ Q ↔ x ∈ l ∧ cnt l x.id = 0) (h1 : (ids Q).Nodup) : KS l [] l Q :=
  ⟨by simp, fun x hx => ((hq x).1 hx).1, h1, fun x hx => by rw [hq]; simp [hx], fun x hx => by (cases hx), fun i x hx => by simp at hx⟩
/-- While n's parents are gone through: k of them have been. -/
structure KI (l D R : List Nd) (n : Nd) (k : Nat) (Q : List Nd) : Prop where
  perm : l.Perm (D ++ (n :: R))
  qin : ∀ x ∈ Q, x ∈ R
  qone : (ids Q).Nodup
  inn : ∀ x ∈ R, x ∈ Q ↔ cnt R x.id + (n.ps.drop k).count x.id = 0
  done : ∀ x ∈ D, cnt (n :: R) x.id = 0
  self : cnt (n :: R) n.id = 0
  ord : ∀ (i : Nat) (x : Nd), D[i]? = some x → ∀ c ∈ l, x.id ∈ c.ps → ∃ j, j < i ∧ D[j]? = some c
theorem ids_perm {l m : List Nd} (h : l.Perm m) : (ids l).Perm (ids m) := h.map _
theorem KS.pop {l D R Q Q1 : List Nd} {n : Nd} (hl : (ids l).Nodup) (h : KS l D R Q) (hq : Q.Perm (n :: Q1)) : ∃ R1, R.Perm (n :: R1) ∧ KI l D R1 n 0 Q1 := by
  have hnQ : n ∈ Q := hq.mem_iff.2 (by simp)
  have hnR := h.qin n hnQ
  obtain ⟨A, B, rfl⟩ := List.append_of_mem hnR
  have hR : (A ++ n :: B).Perm (n :: (A ++ B)) := List.perm_middle
  have hone : (ids (D ++ (n :: (A ++ B)))).Nodup := (ids_perm (h.perm.trans (List.Perm.append_left D hR))).nodup_iff.1 hl
  have hone2 : (ids (n :: (A ++ B))).Nodup := by
    unfold ids at hone ⊢
    rw [List.map_append] at hone
    exact (List.nodup_append.1 hone).2.1
  have hq1 : (ids (n :: Q1)).Nodup := (ids_perm hq).nodup_iff.1 h.qone
  refine ⟨A ++ B, hR, h.perm.trans (List.Perm.append_left D hR), fun x hx => ?_, (List.nodup_cons.1 hq1).2, fun x hx => ?_, fun x hx => ?_, ?_, h.ord⟩
  · have h1 := h.qin x (hq.mem_iff.2 (by simp [hx]))
    rcases List.mem_cons.1 (hR.mem_iff.1 h1) with rfl | h2
    · exact absurd (mem_ids hx) (List.nodup_cons.1 hq1).1
    · exact h2
  · have hne : x.id ≠ n.id := fun e => (List.nodup_cons.1 hone2).1 (by show n.id ∈ ids (A ++ B); rw [← e]; exact mem_ids hx)
    have h1 := h.inn x (hR.mem_iff.2 (by simp [hx]))
    rw [hq.mem_iff, cnt_perm hR, cnt_cons] at h1
    have h2 : x ∈ n :: Q1 ↔ x ∈ Q1 := by
      constructor
      · intro h3
        rcases List.mem_cons.1 h3 with rfl | h3
        · exact absurd rfl hne
        · exact h3
      · intro h3; simp [h3]
    rw [h2] at h1
    rw [h1, List.drop_zero]
    omega
  · rw [← cnt_perm hR]; exact h.done x hx
  · rw [← cnt_perm hR]; exact (h.inn n hnR).1 hnQ
/-- The next parent p of n: whoever waits for n alone comes. -/
theorem KI.zero {l D R Q : List Nd} {n : Nd} {k : Nat} {p : List Int} (hl : (ids l).Nodup) (h : KI l D R n k Q) (hp : n.ps[k]? = some p) (x : Nd) (hx : x ∈ l) (e : x.id = p) : x ∈ R ∧ x ∉ Q := by
  have hc : cnt (n :: R) p ≠ 0 := cnt_pos.2 ⟨n, by simp, List.mem_of_getElem? hp⟩
  have hR : x ∈ R := by
    rcases List.mem_append.1 (h.perm.mem_iff.1 hx) with h1 | h1
    · exact absurd (e ▸ h.done x h1) hc
    · rcases List.mem_cons.1 h1 with rfl | h1
      · exact absurd (e ▸ h.self) hc
      · exact h1
  refine ⟨hR, fun hQ => ?_⟩
  have h2 := (h.inn x hR).1 hQ
  have h3 : p ∈ n.ps.drop k := by
    have := List.mem_of_getElem? (l := n.ps.drop k) (i := 0) (a := p) (by rw [List.getElem?_drop]; simpa using hp)
    exact this
  have h4 := List.count_pos_iff.2 h3
  rw [e] at h2
  omega
theorem drop_count {ps : List (List Int)} {k : Nat} {p : List Int} (hp : ps[k]? = some p) (y : List Int) : (ps.drop k).count y = (if y = p then 1 else 0) + (ps.drop (k + 1)).count y := by
  have hk := (List.getElem?_eq_some_iff.1 hp).1
  rw [List.drop_eq_getElem_cons hk, List.count_cons]
  have e : ps[k] = p := by rw [List.getElem?_eq_getElem hk] at hp; exact Option.some.inj hp
  rw [e, Nat.add_comm]
  by_cases h : y = p
  · subst h; simp
  · have h2 : ¬ p = y := fun e => h e.symm
    simp [h, h2]
theorem KI.pass {l D R Q : List Nd} {n : Nd} {k : Nat} {p : List Int} (hl : (ids l).Nodup) (h : KI l D R n k Q) (hp : n.ps[k]? = some p) (hno : p ∈ ids l → cnt R p + (n.ps.drop (k + 1)).count p ≠ 0) : KI l D R n (k + 1) Q :=
  ⟨h.perm, h.qin, h.qone, fun x hx => by
    have hxl : x ∈ l := h.perm.mem_iff.2 (by simp [hx])
    have h1 := h.inn x hx
    rw [drop_count hp] at h1
    by_cases e : x.id = p
    · have h2 := hno (e ▸ mem_ids hxl)
      have h3 := (h.zero hl hp x hxl e).2
      rw [e] at *
      simp [h3, h2]
      intro h4 h5
      exact h2 (by rw [h4, Nat.zero_add]; exact h5)
    · rw [if_neg e, Nat.zero_add] at h1
      exact h1, h.done, h.self, h.ord⟩
theorem KI.push {l D R Q Q' : List Nd} {n x : Nd} {k : Nat} {p : List Int} (hl : (ids l).Nodup) (h : KI l D R n k Q) (hp : n.ps[k]? = some p) (hx : x ∈ l) (e : x.id = p) (h0 : cnt R p + (n.ps.drop (k + 1)).count p = 0) (hQ : Q'.Perm (x :: Q)) : KI l D R n (k + 1) Q' := by
  obtain ⟨hxR, hxQ⟩ := h.zero hl hp x hx e
  refine ⟨h.perm, fun y hy => ?_, ?_, fun y hy => ?_, h.done, h.self, h.ord⟩
  · rcases List.mem_cons.1 (hQ.mem_iff.1 hy) with rfl | h1
    · exact hxR
    · exact h.qin y h1
  · refine (ids_perm hQ).nodup_iff.2 (List.nodup_cons.2 ⟨fun hm => ?_, h.qone⟩)
    obtain ⟨y, hy, ey⟩ := List.mem_map.1 hm
    have hyl : y ∈ l := h.perm.mem_iff.2 (by simp [h.qin y hy])
    exact hxQ (ids_inj hl hyl hx ey ▸ hy)
  · have hyl : y ∈ l := h.perm.mem_iff.2 (by simp [hy])
    rw [hQ.mem_iff]
    by_cases ey : y.id = p
    · have : y = x := ids_inj hl hyl hx (ey.trans e.symm)
      subst this
      rw [ey]
      simp [h0]
    · have h1 := h.inn y hy
      rw [drop_count hp, if_neg ey, Nat.zero_add] at h1
      rw [← h1]
      constructor
      · intro h3
        rcases List.mem_cons.1 h3 with rfl | h3
        · exact absurd e ey
        · exact h3
      · intro h3; simp [h3]
theorem KI.done_all {l D R Q : List Nd} {n : Nd} (h : KI l D R n n.ps.length Q) : KS l (D ++ [n]) R Q :=
  ⟨h.perm.trans (by simp), h.qin, h.qone, fun x hx => by have := h.inn x hx; rwa [List.drop_length, List.count_nil, Nat.add_zero] at this, fun x hx => by
    rcases List.mem_append.1 hx with h1 | h1
    · have := h.done x h1; rw [cnt_cons] at this; omega
    · have e : x = n := by simpa using h1
      subst e
      have := h.self; rw [cnt_cons] at this; omega, fun i x hx c hc hp => by
    by_cases hi : i < D.length
    · rw [List.getElem?_append_left hi] at hx
      obtain ⟨j, h1, h2⟩ := h.ord i x hx c hc hp
      exact ⟨j, h1, by rw [List.getElem?_append_left (by omega)]; exact h2⟩
    · rw [List.getElem?_append_right (by omega)] at hx
      have hi2 : i = D.length := by
        have := (List.getElem?_eq_some_iff.1 hx).1
        simp at this; omega
      subst hi2
      have e : x = n := by simpa using hx.symm
      subst e
      rcases List.mem_append.1 (h.perm.mem_iff.1 hc) with h1 | h1
      · obtain ⟨j, hj⟩ := List.getElem?_of_mem h1
        have := (List.getElem?_eq_some_iff.1 hj).1
        exact ⟨j, this, by rw [List.getElem?_append_left this]; exact hj⟩
      · exact absurd (h.self) (cnt_pos.2 ⟨c, h1, hp⟩)⟩
/-- All were taken: no node is reached from its parents. -/
theorem KS.acy {l D R Q : List Nd} (hl : (ids l).Nodup) (hpar : ∀ n ∈ l, ∀ p ∈ n.ps, p ∈ ids l) (h : KS l D R Q) (hR : R = []) : Acy l := by
  subst hR
  have hp : l.Perm D := by simpa using h.perm
  have hD : (ids D).Nodup := (ids_perm hp).nodup_iff.1 hl
  intro n hn hr
  obtain ⟨i, hi⟩ := List.getElem?_of_mem (hp.mem_iff.1 hn)
  have key : ∀ (k : Nat) (c : Nd), D[k]? = some c → i ≤ k → ∀ y ∈ c.ps, ∃ j x, i < j ∧ D[j]? = some x ∧ x.id = y := by
    intro k c hc hk y hy
    have hcl : c ∈ l := hp.mem_iff.2 (List.mem_of_getElem? hc)
    obtain ⟨x, hx, ex⟩ := List.mem_map.1 (hpar c hcl y hy)
    obtain ⟨j, hj⟩ := List.getElem?_of_mem (hp.mem_iff.1 hx)
    obtain ⟨j2, h1, h2⟩ := h.ord j x hj c hcl (by show x.id ∈ c.ps; rw [ex]; exact hy)
    have := ids_idx hD h2 hc rfl
    exact ⟨j, x, by omega, hj, ex⟩
  have := hr (fun z => ∃ j x, i < j ∧ D[j]? = some x ∧ x.id = z) (fun y hy => key i n hi (Nat.le_refl _) y hy) (fun z y hz he => by
    obtain ⟨j, x, h1, h2, h3⟩ := hz
    obtain ⟨c, hc, e1, e2⟩ := he
    have hxl : x ∈ l := hp.mem_iff.2 (List.mem_of_getElem? h2)
    have : c = x := ids_inj hl hc hxl (e1.trans h3.symm)
    subst this
    exact key j c h2 (by omega) y e2)
  obtain ⟨j, x, h1, h2, h3⟩ := this
  have := ids_idx hD h2 hi h3
  omega
theorem countP_lt {α : Type} (p q : α → Bool) (l : List α) (h : ∀ x ∈ l, p x = true → q x = true) (y : α) (hy : y ∈ l) (h1 : q y = true) (h2 : p y = false) : l.countP p < l.countP q := by
  induction l with
  | nil => cases hy
  | cons a r ih =>
    have hle : r.countP p ≤ r.countP q := List.countP_mono_left (fun x hx => h x (by simp [hx]))
    rw [List.countP_cons, List.countP_cons]
    rcases List.mem_cons.1 hy with rfl | hy
    · rw [if_neg (by simp [h2]), if_pos h1]; omega
    · have := ih (fun x hx => h x (by simp [hx])) hy
      by_cases ha : p a = true
      · rw [if_pos ha, if_pos (h a (by simp) ha)]; omega
      · rw [if_neg ha]; split <;> omega
/-- Some are left, and none of them may come: then they are no graph. -/
theorem KS.ring {l D R : List Nd} (hl : (ids l).Nodup) (h : KS l D R []) (hR : R ≠ []) : ¬ Acy l := by
  classical
  intro ha
  have hup : ∀ x ∈ R, ∃ c ∈ R, x.id ∈ c.ps := fun x hx => cnt_pos.1 (fun e => by have := (h.inn x hx).2 e; cases this)
  have hRl : ∀ x ∈ R, x ∈ l := fun x hx => h.perm.mem_iff.2 (by simp [hx])
  have main : ∀ (m : Nat) (x : Nd), x ∈ R → l.length - l.countP (fun y => decide (Rch l (· ∈ x.ps) y.id)) < m → False := by
    intro m
    induction m with
    | zero => intro x _ hm; omega
    | succ m ih =>
      intro x hx hm
      obtain ⟨c, hc, hp⟩ := hup x hx
      refine ih c hc ?_
      have hlt : l.countP (fun y => decide (Rch l (· ∈ x.ps) y.id)) < l.countP (fun y => decide (Rch l (· ∈ c.ps) y.id)) := by
        refine countP_lt _ _ l (fun y hy h1 => ?_) x (hRl x hx) ?_ ?_
        · have h2 := of_decide_eq_true h1
          refine decide_eq_true (h2.trans (fun z hz => ?_))
          exact (Rch.of (S := (· ∈ c.ps)) hp).step ⟨x, hRl x hx, rfl, hz⟩
        · exact decide_eq_true (Rch.of hp)
        · exact decide_eq_false (ha x (hRl x hx))
      have hle : l.countP (fun y => decide (Rch l (· ∈ c.ps) y.id)) ≤ l.length := List.countP_le_length
      omega
  obtain ⟨x, hx⟩ := List.exists_mem_of_ne_nil R hR
  exact main _ x hx (Nat.lt_succ_self _)
theorem KS.len {l D R Q : List Nd} (h : KS l D R Q) : l.length = D.length + R.length := by rw [h.perm.length_eq, List.length_append]
end Go.Proofs.YtjgjeedablgmeaaDoor
