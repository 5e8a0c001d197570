/- Names of refs: plainly. -/
import Derived.Lib.Split
import Derived.Lib.Strings
import Derived.Lib.IndexMore
namespace Go.Proofs.YtcfgoiibmhkcnaaDoor
set_option linter.unusedVariables false
set_option linter.unusedSimpArgs false
/-- The parts of a text. -/
def spl : List UInt8 → List (List UInt8)
  | [] => [[]]
  | c :: t => if c = 47 then [] :: spl t else match spl t with
    | [] => [[c]]
    | p :: ps => (c :: p) :: ps
theorem spl_ne : ∀ s, spl s ≠ []
  | [] => by simp [spl]
  | c :: t => by
    rw [spl]
    split
    · simp
    · split <;> simp
theorem spl_index : ∀ s : List UInt8, (Lib.index s [47] = -1 ∧ spl s = [s]) ∨ ∃ i : Nat, Lib.index s [47] = i ∧ i < s.length ∧ s = s.take i ++ 47 :: s.drop (i + 1) ∧ spl s = s.take i :: spl (s.drop (i + 1))
  | [] => .inl ⟨by decide, by simp [spl]⟩
  | c :: t => by
    by_cases hc : c = 47
    · subst hc
      refine .inr ⟨0, ?_, by simp, by simp, ?_⟩
      · rw [Lib.index]; simp [List.isPrefixOf]
      · rw [spl]; simp
    · have hp : ([47] : List UInt8).isPrefixOf (c :: t) = false := by
        simp [List.isPrefixOf]
        exact fun h => hc h.symm
      rcases spl_index t with ⟨h1, h2⟩ | ⟨i, h1, h2, h3, h4⟩
      · refine .inl ⟨?_, ?_⟩
        · rw [Lib.index, hp, h1]; rfl
        · rw [spl, if_neg hc, h2]
      · refine .inr ⟨i + 1, ?_, by simp; exact h2, ?_, ?_⟩
        · rw [Lib.index, hp, h1]
          have : ¬ ((i : Int) == -1) = true := by simp
          rw [if_neg (by decide), if_neg this]
          omega
        · simp
          exact h3
        · rw [spl, if_neg hc, h4]
          simp
theorem splitK_spl : ∀ (k : Nat) (s : List UInt8), (spl s).length ≤ k + 1 → Lib.splitK [47] 0 k s = spl s
  | 0, s, h => by
    rcases spl_index s with ⟨h1, h2⟩ | ⟨i, h1, h2, h3, h4⟩
    · rw [h2]; rfl
    · rw [h4, List.length_cons] at h
      have := List.length_pos_iff.2 (spl_ne (s.drop (i + 1)))
      omega
  | k + 1, s, h => by
    rcases spl_index s with ⟨h1, h2⟩ | ⟨i, h1, h2, h3, h4⟩
    · rw [Lib.splitK, h1, h2]; rfl
    · rw [h4] at h
      rw [Lib.splitK, h1, h4]
      have : ¬ ((i : Int) == -1) = true := by simp
      rw [if_neg this]
      simp only [Int.toNat_natCast, Nat.add_zero, List.length_cons, List.length_nil, Nat.zero_add]
      rw [splitK_spl k _ (by simp at h; omega)]
theorem count_spl : ∀ (f : Nat) (s : List UInt8), s.length + 1 ≤ f → (spl s).length = Lib.countFrom [47] f s + 1
  | 0, s, h => by omega
  | f + 1, s, h => by
    rcases spl_index s with ⟨h1, h2⟩ | ⟨i, h1, h2, h3, h4⟩
    · rw [Lib.countFrom, h1, h2]; rfl
    · rw [Lib.countFrom, h1, h4]
      have : ¬ ((i : Int) == -1) = true := by simp
      rw [if_neg this]
      simp only [Int.toNat_natCast, List.length_cons, List.length_nil, Nat.zero_add]
      have := count_spl f (s.drop (i + 1)) (by rw [List.length_drop]; omega)
      omega
theorem split_spl (s : List UInt8) : Lib.split s [47] = spl s := splitK_spl _ s (by rw [count_spl (s.length + 1) s (Nat.le_refl _)]; exact Nat.le_refl _)
/-- Two bytes, one behind the other. -/
def hasPair (a b : UInt8) : List UInt8 → Bool
  | x :: y :: t => (x == a && y == b) || hasPair a b (y :: t)
  | _ => false
theorem contains_pair (a b : UInt8) : ∀ s : List UInt8, Lib.contains s [a, b] = hasPair a b s
  | [] => by simp [Lib.contains, Lib.index, hasPair]
  | [x] => by simp [Lib.contains, Lib.index, hasPair, List.isPrefixOf]
  | x :: y :: t => by
    have ih := contains_pair a b (y :: t)
    rw [hasPair, ← ih, Lib.contains, Lib.contains, Lib.index]
    have hge := Lib.index_ge (y :: t) [a, b]
    by_cases h : ([a, b] : List UInt8).isPrefixOf (x :: y :: t) = true
    · rw [if_pos h]
      have : (x == a && y == b) = true := by
        simp [List.isPrefixOf] at h ⊢
        exact ⟨h.1.symm, h.2.symm⟩
      rw [this]
      simp
    · rw [if_neg h]
      have : (x == a && y == b) = false := by
        rw [Bool.eq_false_iff]
        intro h2
        apply h
        simp [List.isPrefixOf] at h2 ⊢
        exact ⟨h2.1.symm, h2.2.symm⟩
      rw [this, Bool.false_or]
      by_cases hm : Lib.index (y :: t) [a, b] = -1
      · rw [hm]; rfl
      · rw [if_neg (by simpa using hm)]
        rw [decide_eq_decide]
        omega
/-- 7.1: a part. -/
def partOk (p : List UInt8) : Bool := !p.isEmpty && !Lib.hasPrefix p [46] && !Lib.hasSuffix p [46, 108, 111, 99, 107]
/-- 7.1: a byte. -/
def byteOk (c : UInt8) : Bool := decide (33 ≤ c.toNat) && decide (c.toNat ≤ 126) && !([126, 94, 58, 63, 42, 91, 92] : List UInt8).contains c
/-- The document's walk. -/
def dgo : List UInt8 → Option UInt8 → List UInt8 → Bool
  | cur, _, [] => partOk cur
  | cur, pv, c :: t => if c = 47 then partOk cur && dgo [] (some 47) t else byteOk c && !(c == 46 && pv == some 46) && !(c == 123 && pv == some 64) && dgo (cur ++ [c]) (some c) t
def splC (cur t : List UInt8) : List (List UInt8) := match spl t with
  | [] => [cur]
  | p :: ps => (cur ++ p) :: ps
theorem splC_nil (t : List UInt8) : splC [] t = spl t := by
  unfold splC
  split
  · rename_i h; exact absurd h (spl_ne t)
  · rename_i h; rw [h]; simp
theorem hasPair_cons (a b x : UInt8) (t : List UInt8) (y : UInt8) : hasPair a b (x :: y :: t) = ((x == a && y == b) || hasPair a b (y :: t)) := rfl
theorem pair_pv (a b : UInt8) (pv : Option UInt8) (c : UInt8) (t : List UInt8) : hasPair a b (pv.toList ++ c :: t) = ((c == b && pv == some a) || hasPair a b (c :: t)) := by
  cases pv with
  | none => simp
  | some x =>
    show hasPair a b (x :: c :: t) = _
    rw [hasPair_cons]
    congr 1
    rw [Bool.and_comm]
    simp
theorem dgo_iff : ∀ (t cur : List UInt8) (pv : Option UInt8), dgo cur pv t = ((splC cur t).all partOk && t.all byteOk && !hasPair 46 46 (pv.toList ++ t) && !hasPair 64 123 (pv.toList ++ t))
  | [], cur, pv => by
    cases pv <;> simp [dgo, splC, spl, hasPair]
  | c :: t, cur, pv => by
    rw [dgo, pair_pv, pair_pv]
    by_cases hc : c = 47
    · subst hc
      rw [if_pos rfl, dgo_iff t [] (some 47), splC_nil]
      have e1 : splC cur (47 :: t) = cur :: spl t := by simp [splC, spl]
      have e2 : byteOk 47 = true := by decide
      rw [e1, List.all_cons, List.all_cons, e2]
      simp only [Option.toList_some, List.singleton_append]
      have e3 : ((47 : UInt8) == 46) = false := by decide
      have e4 : ((47 : UInt8) == 123) = false := by decide
      rw [e3, e4]
      simp only [Bool.false_and, Bool.false_or, Bool.true_and]
      cases partOk cur <;> simp
    · rw [if_neg hc, dgo_iff t (cur ++ [c]) (some c)]
      have e1 : splC (cur ++ [c]) t = splC cur (c :: t) := by
        unfold splC
        rw [spl, if_neg hc]
        split
        · rename_i h; exact absurd h (spl_ne t)
        · rename_i h; simp
      rw [e1, List.all_cons]
      simp only [Option.toList_some, List.singleton_append]
      cases byteOk c <;> cases (splC cur (c :: t)).all partOk <;> cases (c == 46 && pv == some 46) <;> cases (c == 123 && pv == some 64) <;> simp
/-- 7.1, as the document's walk has it. -/
def docOk (s : List UInt8) : Bool := decide (s.length ≤ 60) && decide (6 ≤ s.length) && (s.take 5 == [114, 101, 102, 115, 47]) && !Lib.hasSuffix s [46] && dgo [] none s
/-- 7.1, as the program has it. -/
def prgOk (s : List UInt8) : Bool := decide (s.length ≤ 60) && ((spl s).all partOk && ((spl s).headD [] == [114, 101, 102, 115]) && decide (1 < (spl s).length)) && s.all byteOk && !Lib.contains s [46, 46] && !Lib.contains s [64, 123] && !Lib.hasSuffix s [46]
theorem refs_iff (s : List UInt8) (hp : (spl s).all partOk = true) : (((spl s).headD [] == [114, 101, 102, 115]) && decide (1 < (spl s).length)) = (decide (6 ≤ s.length) && (s.take 5 == [114, 101, 102, 115, 47])) := by
  rw [Bool.eq_iff_iff]
  simp only [Bool.and_eq_true, beq_iff_eq, decide_eq_true_eq]
  constructor
  · rintro ⟨h1, h2⟩
    rcases spl_index s with ⟨_, e⟩ | ⟨i, _, hi, hs, e⟩
    · rw [e] at h2; simp at h2
    · rw [e] at h1 hp
      simp at h1
      rw [h1] at hs
      have hne : s.drop (i + 1) ≠ [] := by
        intro h
        rw [h] at hp
        simp [spl, partOk] at hp
      rw [hs]
      have := List.length_pos_iff.2 hne
      constructor
      · simp only [List.length_append, List.length_cons, List.length_nil]
        omega
      · simp
  · rintro ⟨h1, h2⟩
    have hs : s = [114, 101, 102, 115, 47] ++ s.drop 5 := by
      rw [← h2, List.take_append_drop]
    obtain ⟨t, ht⟩ : ∃ t, t = s.drop 5 := ⟨_, rfl⟩
    rw [← ht] at hs
    have e : spl s = [114, 101, 102, 115] :: spl t := by
      rw [hs]
      simp [spl]
    rw [e]
    have := List.length_pos_iff.2 (spl_ne t)
    refine ⟨by simp, by simp; omega⟩
/-- Both are one. -/
theorem ok_same (s : List UInt8) : prgOk s = docOk s := by
  unfold prgOk docOk
  rw [dgo_iff, splC_nil, contains_pair, contains_pair]
  simp only [Option.toList_none, List.nil_append]
  cases hp : (spl s).all partOk with
  | false => simp
  | true =>
    have := refs_iff s hp
    rw [Bool.true_and, this]
    cases decide (s.length ≤ 60) <;> cases decide (6 ≤ s.length) <;> cases (s.take 5 == [114, 101, 102, 115, 47]) <;> cases s.all byteOk <;> cases hasPair 46 46 s <;> cases hasPair 64 123 s <;> cases Lib.hasSuffix s [46] <;> rfl
end Go.Proofs.YtcfgoiibmhkcnaaDoor
