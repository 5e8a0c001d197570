/- THE PLAIN MATHEMATICS OF A CODE, AS THE DOCUMENT READS IT: the bits of each symbol; the search finds what the program's counts find. -/
import Derived.Test.YtbiibhpknflagaaDoorCodeB
namespace Go.Proofs.YtbiibhpknflagaaDoor
open Go.RowKit Plain
set_option linter.unusedVariables false

/-- The number behind the last code of length n. -/
def nxt (lens : List Nat) : Nat → Nat
  | 0 => 0
  | n + 1 => 2 * nxt lens n + lens.count (n + 1)
/-- How many of the symbols ahead have this one's length. -/
def rank (lens : List Nat) (n i : Nat) : Nat := (lens.take i).count n
def bitOf (lens : List Nat) (i : Nat) : Nat := 2 * nxt lens (lens.getD i 0 - 1) + rank lens (lens.getD i 0) i
def bitsL (lens : List Nat) : List Nat := (List.range lens.length).map fun i => if lens.getD i 0 = 0 then 0 else bitOf lens i
theorem bitsL_len (lens : List Nat) : (bitsL lens).length = lens.length := by simp [bitsL]
theorem bitsL_get (lens : List Nat) (i : Nat) (h : i < lens.length) (h0 : 0 < lens.getD i 0) : (bitsL lens).getD i 0 = bitOf lens i := by
  have h0' : ¬ lens.getD i 0 = 0 := by omega
  unfold bitsL
  rw [List.getD_eq_getElem?_getD, List.getElem?_map, List.getElem?_range h]
  simp only [Option.map_some, Option.getD_some]
  rw [if_neg h0']
theorem rank_up (lens : List Nat) (n i : Nat) (h : i < lens.length) : rank lens n (i + 1) = rank lens n i + if lens.getD i 0 = n then 1 else 0 := by
  unfold rank
  rw [take_snocN lens i h, List.count_append, List.count_singleton]
  simp
theorem rank_mono (lens : List Nat) (n : Nat) {i j : Nat} (h : i ≤ j) : rank lens n i ≤ rank lens n j := by
  unfold rank
  exact List.Sublist.count_le _ ((List.take_prefix_take_left (l := lens) h).sublist)
theorem rank_lt (lens : List Nat) (n : Nat) {i j : Nat} (h : i < j) (hi : i < lens.length) (he : lens.getD i 0 = n) : rank lens n i < rank lens n j := by
  have h1 := rank_mono lens n (show i + 1 ≤ j from h)
  have h2 := rank_up lens n i hi
  rw [if_pos he] at h2
  omega
theorem rank_all (lens : List Nat) (n : Nat) : rank lens n lens.length = lens.count n := by unfold rank; rw [List.take_length]
theorem rank_count (lens : List Nat) (n i : Nat) (hi : i < lens.length) (he : lens.getD i 0 = n) : rank lens n i < lens.count n := by
  have := rank_lt lens n hi hi he
  rw [rank_all] at this
  exact this
theorem nth_of (n : Nat) : ∀ (l : List Nat) (r : Nat), r < l.count n → ∃ i, i < l.length ∧ l.getD i 0 = n ∧ rank l n i = r
  | [], r, h => by simp at h
  | x :: l, r, h => by
    by_cases hx : x = n
    · subst hx
      rw [List.count_cons_self] at h
      cases r with
      | zero => exact ⟨0, by simp, by simp, by simp [rank]⟩
      | succ r =>
        obtain ⟨i, h1, h2, h3⟩ := nth_of x l r (by omega)
        refine ⟨i + 1, by simpa using h1, by simpa using h2, ?_⟩
        unfold rank at h3 ⊢
        rw [List.take_succ_cons, List.count_cons_self, h3]
    · rw [List.count_cons_of_ne (by simpa using hx)] at h
      obtain ⟨i, h1, h2, h3⟩ := nth_of n l r h
      refine ⟨i + 1, by simpa using h1, by simpa using h2, ?_⟩
      unfold rank at h3 ⊢
      rw [List.take_succ_cons, List.count_cons_of_ne (by simpa using hx), h3]
theorem layTo_at (lens : List Nat) (h15 : ∀ i, lens.getD i 0 ≤ 15) : ∀ k, k ≤ lens.length → ∀ i, i < k → 0 < lens.getD i 0 → (layTo lens k).2.getD (below (cntOf lens) (lens.getD i 0) + rank lens (lens.getD i 0) i) 0 = i
  | 0, _, i, hi, _ => by omega
  | k + 1, hk, i, hi, h0 => by
    rw [layTo]
    unfold lay
    by_cases hk0 : 0 < lens.getD k 0
    · rw [if_pos hk0]
      have hp := layTo_place lens (lens.getD k 0) hk0 (h15 k) k (by omega)
      have hr := layTo_room lens k (by omega) hk0 (h15 k)
      have hl := layTo_len2 lens k
      show ((layTo lens k).2.set ((layTo lens k).1.getD (lens.getD k 0) 0) k).getD _ 0 = i
      rw [hp] at hr ⊢
      by_cases e : i = k
      · subst e
        rw [show below (cntOf lens) (lens.getD i 0) + rank lens (lens.getD i 0) i = below (cntOf lens) (lens.getD i 0) + (lens.take i).count (lens.getD i 0) from rfl]
        rw [List.getD_eq_getElem?_getD, List.getElem?_set_self (by omega)]
        rfl
      · have hik : i < k := by omega
        have ih := layTo_at lens h15 k (by omega) i hik h0
        have hne : below (cntOf lens) (lens.getD k 0) + (lens.take k).count (lens.getD k 0) ≠ below (cntOf lens) (lens.getD i 0) + rank lens (lens.getD i 0) i := by
          have a1 := rank_count lens _ i (by omega) rfl
          have a2 := rank_count lens _ k (by omega) rfl
          have b1 := below_succ (cntOf lens) _ h0
          have b2 := below_succ (cntOf lens) _ hk0
          rw [cntOf_count lens _ h0 (by have := h15 i; omega)] at b1
          rw [cntOf_count lens _ hk0 (by have := h15 k; omega)] at b2
          show below (cntOf lens) (lens.getD k 0) + rank lens (lens.getD k 0) k ≠ _
          rcases Nat.lt_trichotomy (lens.getD i 0) (lens.getD k 0) with c | c | c
          · have := below_mono (cntOf lens) (lens.getD i 0 + 1) (lens.getD k 0) c
            omega
          · have := rank_lt lens _ hik (by omega) c
            rw [← c] at this ⊢
            have := rank_lt lens _ hik (by omega) rfl
            omega
          · have := below_mono (cntOf lens) (lens.getD k 0 + 1) (lens.getD i 0) c
            omega
        rw [List.getD_eq_getElem?_getD, List.getElem?_set_ne hne, ← List.getD_eq_getElem?_getD]
        exact ih
    · rw [if_neg hk0]
      by_cases e : i = k
      · subst e; omega
      · exact layTo_at lens h15 k (by omega) i (by omega) h0
theorem srt_at (lens : List Nat) (h15 : ∀ i, lens.getD i 0 ≤ 15) (i : Nat) (hi : i < lens.length) (h0 : 0 < lens.getD i 0) : (srtOf lens).getD (below (cntOf lens) (lens.getD i 0) + rank lens (lens.getD i 0) i) 0 = i :=
  layTo_at lens h15 lens.length (Nat.le_refl _) i hi h0

/-- How much of 2 to the power of 15 the lengths up to n take. -/
def sp (lens : List Nat) : Nat → Nat
  | 0 => 0
  | n + 1 => sp lens n + lens.count (n + 1) * 2 ^ (15 - (n + 1))
theorem free_sp (lens : List Nat) : ∀ n, n ≤ 15 → free (cntOf lens) n * 2 ^ (15 - n) = 32768 - (sp lens n : Int)
  | 0, _ => by simp [free, sp]
  | n + 1, h => by
    have ih := free_sp lens n (by omega)
    have e : 15 - n = (15 - (n + 1)) + 1 := by omega
    obtain ⟨P, hP⟩ : ∃ P : Nat, P = 2 ^ (15 - (n + 1)) := ⟨_, rfl⟩
    have hP2 : (2 : Int) ^ (15 - (n + 1)) = (P : Int) := by rw [hP]; push_cast; rfl
    rw [e, Int.pow_succ, hP2] at ih
    rw [free, sp, cntOf_count lens _ (by omega) (by omega), ← hP, hP2, Int.sub_mul, Int.natCast_add, Int.natCast_mul]
    have e2 : 2 * free (cntOf lens) n * P = free (cntOf lens) n * (P * 2) := by rw [Int.mul_comm 2, Int.mul_assoc, Int.mul_comm 2]
    rw [e2, ih]
    omega
theorem sp_mono (lens : List Nat) (n : Nat) : ∀ k, sp lens n ≤ sp lens (n + k)
  | 0 => Nat.le_refl _
  | k + 1 => by
    have := sp_mono lens n k
    rw [show n + (k + 1) = (n + k) + 1 by omega, sp]
    omega
theorem whole_sp (lens : List Nat) : wholeB (cntOf lens) = decide (sp lens 15 = 32768) := by
  have h15 := free_sp lens 15 (Nat.le_refl _)
  simp only [Nat.sub_self, Int.pow_zero, Int.mul_one] at h15
  unfold wholeB
  by_cases h : sp lens 15 = 32768
  · rw [decide_eq_true h]
    have hf : free (cntOf lens) 15 = 0 := by omega
    rw [hf]
    simp only [beq_self_eq_true, Bool.and_true, List.all_eq_true, decide_eq_true_eq, List.mem_range]
    intro n hn
    have hs := free_sp lens n (by omega)
    have hm := sp_mono lens n (15 - n)
    rw [show n + (15 - n) = 15 by omega] at hm
    have hp : (0 : Int) < 2 ^ (15 - n) := Int.pow_pos (by omega)
    by_cases hneg : 0 ≤ free (cntOf lens) n
    · exact hneg
    · have := Int.mul_neg_of_neg_of_pos (Int.not_le.1 hneg) hp
      omega
  · rw [decide_eq_false h]
    have hf : ¬ free (cntOf lens) 15 = 0 := by omega
    simp [hf]
/-- Whether the counts tell of so many symbols. -/
theorem sum_below : ∀ cs : List Nat, cs.length = 16 → cs.getD 0 0 = 0 → cs.sum = below cs 16
  | [a0, a1, a2, a3, a4, a5, a6, a7, a8, a9, a10, a11, a12, a13, a14, a15], _, h => by
    simp [below] at h ⊢
    omega
theorem cnt_sum (lens : List Nat) : (cntOf lens).sum = below (cntOf lens) 16 := sum_below _ (cntOf_len lens) (cntOf_zero lens)
end Go.Proofs.YtbiibhpknflagaaDoor
