/- Chapter 3.1, plain: headers, and what they are cut into. -/
import Derived.Test.YtbpdielmdhhdfaaGreatDoorKindA
import Derived.Lib.IndexMore
import Derived.Lib.Strings
import Derived.Lib.ItoaNum
namespace Go.Proofs.YtbpdielmdhhdfaaGreatDoor
open Go.RowKit
set_option linter.unusedVariables false
set_option linter.unusedSimpArgs false
/-- Behind the first c: what stands ahead of it, and behind. -/
theorem index_one (c : UInt8) : ∀ s : List UInt8, (c ∉ s ∧ Lib.index s [c] = -1) ∨ ∃ a d, s = a ++ c :: d ∧ c ∉ a ∧ Lib.index s [c] = (a.length : Int)
  | [] => .inl ⟨by simp, rfl⟩
  | b :: l => by
    by_cases hb : b = c
    · subst hb
      refine .inr ⟨[], l, rfl, by simp, ?_⟩
      unfold Lib.index
      simp
    · have h0 : [c].isPrefixOf (b :: l) = false := by simp [List.isPrefixOf, Ne.symm hb]
      rcases index_one c l with ⟨h1, h2⟩ | ⟨a, d, h1, h2, h3⟩
      · refine .inl ⟨by simp [Ne.symm hb, h1], ?_⟩
        unfold Lib.index
        rw [h0, h2]; rfl
      · refine .inr ⟨b :: a, d, by rw [h1]; rfl, by simp [Ne.symm hb, h2], ?_⟩
        unfold Lib.index
        rw [h0, h3]
        have : ((a.length : Int) == -1) = false := by rw [beq_eq_false_iff_ne]; omega
        simp [this]
theorem first_same {c : UInt8} : ∀ {a a' d d' : List UInt8}, c ∉ a → c ∉ a' → a ++ c :: d = a' ++ c :: d' → a = a' ∧ d = d'
  | [], [], d, d', _, _, h => by simpa using h
  | [], b :: l, d, d', _, h2, h => by simp at h; simp [h.1] at h2
  | b :: l, [], d, d', h1, _, h => by simp at h; simp [h.1] at h1
  | b :: l, b' :: l', d, d', h1, h2, h => by
    simp only [List.cons_append, List.cons.injEq] at h
    obtain ⟨rfl, h⟩ := h
    simp only [List.mem_cons, not_or] at h1 h2
    obtain ⟨rfl, rfl⟩ := first_same h1.2 h2.2 h
    exact ⟨rfl, rfl⟩
theorem dig_mem : ∀ (_n m : Nat), m ≤ _n → ∀ x ∈ Lib.decDigits m, 48 ≤ x.toNat ∧ x.toNat ≤ 57
  | n, m, hm, x, hx => by
    rw [Lib.decDigits] at hx
    split at hx
    · rename_i h
      simp only [List.mem_singleton] at hx
      subst hx
      rw [UInt8.toNat_ofNat']
      omega
    · rename_i h
      simp only [List.mem_append, List.mem_singleton] at hx
      rcases hx with hx | hx
      · exact dig_mem (n / 10) (m / 10) (by omega) x hx
      · subst hx
        rw [UInt8.toNat_ofNat']
        omega
  termination_by n m => m
  decreasing_by omega
theorem dig_not (m : Nat) (c : UInt8) (h : c.toNat < 48) : c ∉ Lib.decDigits m := fun hx => by
  have := (dig_mem m m (Nat.le_refl _) c hx).1
  omega
/-- 3.1: a header, without its last byte; with it. -/
def h0 (k : Int) (n : Nat) : List UInt8 := (kN k).data.toList ++ 32 :: Lib.decDigits n
def hd (k : Int) (n : Nat) : List UInt8 := h0 k n ++ [0]
theorem kN_list (k : Int) : (kN k).data.toList = if k == 1 then [99, 111, 109, 109, 105, 116] else if k == 2 then [116, 114, 101, 101] else if k == 3 then [98, 108, 111, 98] else if k == 4 then [116, 97, 103] else [] := by
  unfold kN
  split
  · rfl
  · split
    · rfl
    · split
      · rfl
      · split
        · rfl
        · rfl
theorem kN_not (k : Int) (c : UInt8) (h : c.toNat < 48) : c ∉ (kN k).data.toList := by
  rw [kN_list]
  intro hx
  split at hx
  · simp at hx; rcases hx with rfl | rfl | rfl | rfl | rfl <;> simp at h
  · split at hx
    · simp at hx; rcases hx with rfl | rfl | rfl <;> simp at h
    · split at hx
      · simp at hx; rcases hx with rfl | rfl | rfl | rfl <;> simp at h
      · split at hx
        · simp at hx; rcases hx with rfl | rfl | rfl <;> simp at h
        · simp at hx
theorem kN_inj (i j : Nat) (hi : 1 ≤ i) (hi' : i ≤ 4) (hj : 1 ≤ j) (hj' : j ≤ 4) (h : (kN i).data.toList = (kN j).data.toList) : i = j := by
  rw [kN_list, kN_list] at h
  have e1 : i = 1 ∨ i = 2 ∨ i = 3 ∨ i = 4 := by omega
  have e2 : j = 1 ∨ j = 2 ∨ j = 3 ∨ j = 4 := by omega
  rcases e1 with rfl | rfl | rfl | rfl <;> rcases e2 with rfl | rfl | rfl | rfl <;> first | rfl | (simp at h)
theorem h0_zero (k : Int) (n : Nat) : (0 : UInt8) ∉ h0 k n := by
  unfold h0
  simp only [List.mem_append, List.mem_cons, not_or]
  exact ⟨kN_not k 0 (by decide), by decide, dig_not n 0 (by decide)⟩
/-- 3.1: these bytes are that object, encoded. -/
structure Gd (B : List UInt8) (k : Nat) (D : List UInt8) : Prop where
  lo : 1 ≤ k
  hi : k ≤ 4
  len : D.length ≤ 100000
  eq : B = hd k D.length ++ D
theorem Gd.cut {B : List UInt8} {k : Nat} {D a d : List UInt8} (h : Gd B k D) (hb : B = a ++ 0 :: d) (ha : (0 : UInt8) ∉ a) : a = h0 k D.length ∧ d = D := by
  have e := h.eq
  rw [hb] at e
  have e' : a ++ 0 :: d = h0 k D.length ++ 0 :: D := by rw [e, hd]; simp
  exact first_same ha (h0_zero _ _) e'
theorem Gd.has {B : List UInt8} {k : Nat} {D : List UInt8} (h : Gd B k D) : (0 : UInt8) ∈ B := by rw [h.eq, hd]; simp
theorem Gd.name {B : List UInt8} {k : Nat} {D a d : List UInt8} (h : Gd B k D) (hb : B = a ++ 0 :: d) (ha : (0 : UInt8) ∉ a) : (Lib.cut a [32]).1 = (kN k).data.toList := by
  obtain ⟨rfl, rfl⟩ := h.cut hb ha
  rcases index_one 32 (h0 k d.length) with ⟨h1, h2⟩ | ⟨a', d', h1, h2, h3⟩
  · exact absurd (by unfold h0; simp) h1
  · have e : a' = (kN k).data.toList ∧ d' = Lib.decDigits d.length := first_same h2 (kN_not _ _ (by decide)) (by rw [← h1]; rfl)
    unfold Lib.cut
    rw [if_pos (by omega), h3]
    simp only [Int.toNat_natCast]
    rw [h1, ← e.1]
    simp
theorem gd_of {B : List UInt8} {k : Nat} {a d : List UInt8} (h1 : 1 ≤ k) (h4 : k ≤ 4) (hl : d.length ≤ 100000) (hb : B = a ++ 0 :: d) (ha : (0 : UInt8) ∉ a) (hp : Lib.hasPrefix B (hd k d.length) = true) : Gd B k d := by
  refine ⟨h1, h4, hl, ?_⟩
  obtain ⟨t, ht⟩ := List.isPrefixOf_iff_prefix.1 hp
  have e : a ++ 0 :: d = h0 k d.length ++ 0 :: t := by rw [← hb, ← ht, hd]; simp
  obtain ⟨rfl, rfl⟩ := first_same ha (h0_zero _ _) e
  exact ht.symm
theorem Gd.prefix {B : List UInt8} {k : Nat} {D : List UInt8} (h : Gd B k D) : Lib.hasPrefix B (hd k D.length) = true := List.isPrefixOf_iff_prefix.2 ⟨D, h.eq.symm⟩
theorem Gd.one {B : List UInt8} {k k' : Nat} {D D' : List UInt8} (h : Gd B k D) (h' : Gd B k' D') : k = k' ∧ D = D' := by
  have hb : B = h0 k D.length ++ 0 :: D := by rw [h.eq, hd]; simp
  have n1 := h.name hb (h0_zero _ _)
  have n2 := h'.name hb (h0_zero _ _)
  exact ⟨kN_inj k k' h.lo h.hi h'.lo h'.hi (n1.symm.trans n2), (h'.cut hb (h0_zero _ _)).2⟩
end Go.Proofs.YtbpdielmdhhdfaaGreatDoor
