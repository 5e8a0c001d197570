import Derived.Test.YtmpjapcijjjlbaaGreatDoorQa10
namespace Go.Proofs.YtmpjapcijjjlbaaGreatDoor
set_option linter.unusedVariables false
set_option linter.unusedSimpArgs false
abbrev Hd := Int × Nat × Int × Nat
def bg1 (s : Str) := wrd s hdS
def bg2 (s : Str) := nbr (bg1 s).1
def bg3 (s : Str) := wrd (bg2 s).2.1 [44]
def bg4 (s : Str) := nbr (bg3 s).1
def bg5 (s : Str) := wrd (bg4 s).2.1 [32, 43]
def bg6 (s : Str) := nbr (bg5 s).1
def bg7 (s : Str) := wrd (bg6 s).2.1 [44]
def bg8 (s : Str) := nbr (bg7 s).1
def bg9 (s : Str) := wrd (bg8 s).2.1 [32, 64, 64, 10]
def fst (n k : Nat) : Int := if 0 < k then (n : Int) - 1 else n
def bgH (s : Str) : Hd := (fst (bg2 s).1 (bg4 s).1, (bg4 s).1, fst (bg6 s).1 (bg8 s).1, (bg8 s).1)
abbrev bgOk (s : Str) : Prop := ((((((((((bg1 s).2 = true ∧ (bg2 s).2.2 = true) ∧ (bg3 s).2 = true) ∧ (bg4 s).2.2 = true) ∧ (bg5 s).2 = true) ∧ (bg6 s).2.2 = true) ∧ (bg7 s).2 = true) ∧ (bg8 s).2.2 = true) ∧ (bg9 s).2 = true) ∧ 0 ≤ (bgH s).1) ∧ 0 ≤ (bgH s).2.2.1
theorem head_app (a n b m : Nat) (r : Str) : headT a n b m ++ r = hdS ++ (Lib.decDigits (a + min n 1) ++ ([44] ++ (Lib.decDigits n ++ ([32, 43] ++ (Lib.decDigits (b + min m 1) ++ ([44] ++ (Lib.decDigits m ++ ([32, 64, 64, 10] ++ r)))))))) := by
  simp [headT, plc, hdS]
theorem fst_back (a n : Nat) : fst (a + min n 1) n = (a : Int) := by
  unfold fst
  split <;> omega
theorem hdc (x : Str) (c d : UInt8) (r : Str) (h : isD d = false) : ((d :: x) ++ r).head? = some c → isD c = false := fun e => by
  simp at e
  rw [← e]; exact h
theorem bg_write (a n b m : Nat) (r : Str) (h1 : a + min n 1 < 10 ^ 9) (h2 : n < 10 ^ 9) (h3 : b + min m 1 < 10 ^ 9) (h4 : m < 10 ^ 9) : bgOk (headT a n b m ++ r) ∧ bgH (headT a n b m ++ r) = ((a : Int), n, (b : Int), m) ∧ (bg9 (headT a n b m ++ r)).1 = r := by
  rw [head_app]
  have e1 : bg1 (hdS ++ (Lib.decDigits (a + min n 1) ++ ([44] ++ (Lib.decDigits n ++ ([32, 43] ++ (Lib.decDigits (b + min m 1) ++ ([44] ++ (Lib.decDigits m ++ ([32, 64, 64, 10] ++ r))))))))) = _ := wrd_app _ _
  generalize hS : hdS ++ (Lib.decDigits (a + min n 1) ++ ([44] ++ (Lib.decDigits n ++ ([32, 43] ++ (Lib.decDigits (b + min m 1) ++ ([44] ++ (Lib.decDigits m ++ ([32, 64, 64, 10] ++ r)))))))) = S at e1 ⊢
  have e2 : bg2 S = (a + min n 1, [44] ++ (Lib.decDigits n ++ ([32, 43] ++ (Lib.decDigits (b + min m 1) ++ ([44] ++ (Lib.decDigits m ++ ([32, 64, 64, 10] ++ r)))))), true) := by unfold bg2; rw [e1]; exact nbr_write _ _ h1 (fun c => hdc [] c 44 _ (by decide))
  have e3 : bg3 S = (Lib.decDigits n ++ ([32, 43] ++ (Lib.decDigits (b + min m 1) ++ ([44] ++ (Lib.decDigits m ++ ([32, 64, 64, 10] ++ r))))), true) := by unfold bg3; rw [e2]; exact wrd_app _ _
  have e4 : bg4 S = (n, [32, 43] ++ (Lib.decDigits (b + min m 1) ++ ([44] ++ (Lib.decDigits m ++ ([32, 64, 64, 10] ++ r)))), true) := by unfold bg4; rw [e3]; exact nbr_write _ _ h2 (fun c => hdc [43] c 32 _ (by decide))
  have e5 : bg5 S = (Lib.decDigits (b + min m 1) ++ ([44] ++ (Lib.decDigits m ++ ([32, 64, 64, 10] ++ r))), true) := by unfold bg5; rw [e4]; exact wrd_app _ _
  have e6 : bg6 S = (b + min m 1, [44] ++ (Lib.decDigits m ++ ([32, 64, 64, 10] ++ r)), true) := by unfold bg6; rw [e5]; exact nbr_write _ _ h3 (fun c => hdc [] c 44 _ (by decide))
  have e7 : bg7 S = (Lib.decDigits m ++ ([32, 64, 64, 10] ++ r), true) := by unfold bg7; rw [e6]; exact wrd_app _ _
  have e8 : bg8 S = (m, [32, 64, 64, 10] ++ r, true) := by unfold bg8; rw [e7]; exact nbr_write _ _ h4 (fun c => hdc [64, 64, 10] c 32 _ (by decide))
  have e9 : bg9 S = (r, true) := by unfold bg9; rw [e8]; exact wrd_app _ _
  have eH : bgH S = ((a : Int), n, (b : Int), m) := by unfold bgH; rw [e2, e4, e6, e8]; simp only [fst_back]
  refine ⟨?_, eH, by rw [e9]⟩
  unfold bgOk
  rw [e1, e2, e3, e4, e5, e6, e7, e8, e9, eH]
  simp only [and_self, true_and]
  omega
theorem fst_fwd {n k : Nat} (h : 0 ≤ fst n k) : (fst n k).toNat + min k 1 = n := by
  unfold fst at h ⊢
  split <;> split at h <;> omega
theorem bg_read {s : Str} (h : bgOk s) : ∃ a n b m : Nat, bgH s = ((a : Int), n, (b : Int), m) ∧ s = headT a n b m ++ (bg9 s).1 ∧ a + min n 1 < 10 ^ 9 ∧ n < 10 ^ 9 ∧ b + min m 1 < 10 ^ 9 ∧ m < 10 ^ 9 := by
  unfold bgOk at h
  have p2 := h.2
  have p1 := h.1.2
  have e9 : (bg8 s).2.1 = [32, 64, 64, 10] ++ (bg9 s).1 := wrd_ok h.1.1.2
  have e8 : (bg7 s).1 = Lib.decDigits (bg8 s).1 ++ (bg8 s).2.1 ∧ (bg8 s).1 < 10 ^ 9 := nbr_ok h.1.1.1.2
  have e7 : (bg6 s).2.1 = [44] ++ (bg7 s).1 := wrd_ok h.1.1.1.1.2
  have e6 : (bg5 s).1 = Lib.decDigits (bg6 s).1 ++ (bg6 s).2.1 ∧ (bg6 s).1 < 10 ^ 9 := nbr_ok h.1.1.1.1.1.2
  have e5 : (bg4 s).2.1 = [32, 43] ++ (bg5 s).1 := wrd_ok h.1.1.1.1.1.1.2
  have e4 : (bg3 s).1 = Lib.decDigits (bg4 s).1 ++ (bg4 s).2.1 ∧ (bg4 s).1 < 10 ^ 9 := nbr_ok h.1.1.1.1.1.1.1.2
  have e3 : (bg2 s).2.1 = [44] ++ (bg3 s).1 := wrd_ok h.1.1.1.1.1.1.1.1.2
  have e2 : (bg1 s).1 = Lib.decDigits (bg2 s).1 ++ (bg2 s).2.1 ∧ (bg2 s).1 < 10 ^ 9 := nbr_ok h.1.1.1.1.1.1.1.1.1.2
  have e1 : s = hdS ++ (bg1 s).1 := wrd_ok h.1.1.1.1.1.1.1.1.1.1
  have hH : bgH s = (fst (bg2 s).1 (bg4 s).1, (bg4 s).1, fst (bg6 s).1 (bg8 s).1, (bg8 s).1) := rfl
  clear h
  rw [hH] at p1 p2 ⊢
  generalize (bg9 s).1 = r9 at *
  generalize bg8 s = b8 at *
  generalize (bg7 s).1 = r7 at *
  generalize bg6 s = b6 at *
  generalize (bg5 s).1 = r5 at *
  generalize bg4 s = b4 at *
  generalize (bg3 s).1 = r3 at *
  generalize bg2 s = b2 at *
  generalize (bg1 s).1 = r1 at *
  simp only at p1 p2
  have f1 := fst_fwd p1
  have f2 := fst_fwd p2
  refine ⟨(fst b2.1 b4.1).toNat, b4.1, (fst b6.1 b8.1).toNat, b8.1, ?_, ?_, ?_, e4.2, ?_, e8.2⟩
  · rw [Int.toNat_of_nonneg p1, Int.toNat_of_nonneg p2]
  · rw [head_app, f1, f2, ← e9, ← e8.1, ← e7, ← e6.1, ← e5, ← e4.1, ← e3, ← e2.1]
    exact e1
  · rw [f1]; exact e2.2
  · rw [f2]; exact e6.2
def upto : Str → Option (Str × Str)
  | [] => none
  | c :: r => if c = 10 then some ([], r) else (upto r).map fun x => (c :: x.1, x.2)
theorem upto_write : ∀ (x r : Str), (10 : UInt8) ∉ x → upto (x ++ 10 :: r) = some (x, r)
  | [], r, _ => by simp [upto]
  | c :: x, r, h => by
    have hc : ¬ c = 10 := fun e => h (by simp [e])
    rw [List.cons_append, upto, if_neg hc, upto_write x r (fun hm => h (by simp [hm]))]
    rfl
theorem upto_read : ∀ {s x r : Str}, upto s = some (x, r) → s = x ++ 10 :: r ∧ (10 : UInt8) ∉ x
  | [], x, r, h => by cases h
  | c :: s, x, r, h => by
    rw [upto] at h
    split at h
    · rename_i e
      cases h
      exact ⟨by rw [e]; rfl, by simp⟩
    · rename_i e
      cases hu : upto s with
      | none => rw [hu] at h; cases h
      | some y =>
        rw [hu] at h
        cases h
        obtain ⟨h1, h2⟩ := upto_read (x := y.1) (r := y.2) hu
        refine ⟨by rw [h1]; rfl, fun hm => ?_⟩
        rcases List.mem_cons.1 hm with h3 | h3
        · exact e h3.symm
        · exact h2 h3
def kdD (c : UInt8) : Option Nat := if c = 32 then some 0 else if c = 45 then some 1 else if c = 43 then some 2 else none
def ln1 (s : Str) : Option (Ed × Str) := match s with
  | [] => none
  | c :: t => match kdD c, upto t with
    | some k, some (x, r) => match wrd r noM with
      | (r2, true) => if x = [] then none else some ((k, x), r2)
      | (_, false) => some ((k, x ++ [10]), r)
    | _, _ => none
theorem kd_sgn (k : Nat) (h : k ≤ 2) : kdD (sgn k) = some k := by
  rcases (by omega : k = 0 ∨ k = 1 ∨ k = 2) with rfl | rfl | rfl <;> rfl
theorem kd_back {c : UInt8} {k : Nat} (h : kdD c = some k) : k ≤ 2 ∧ sgn k = c := by
  unfold kdD at h
  split at h
  · rename_i e; cases h; exact ⟨by omega, by rw [e]; rfl⟩
  · split at h
    · rename_i e; cases h; exact ⟨by omega, by rw [e]; rfl⟩
    · split at h
      · rename_i e; cases h; exact ⟨by omega, by rw [e]; rfl⟩
      · cases h
theorem ln1_write (e : Ed) (r : Str) (he : WfE e) (hr : (wrd r noM).2 = false) : ln1 (lineT e ++ r) = some (e, r) := by
  obtain ⟨k, x⟩ := e
  obtain ⟨hk, hne, hone⟩ := he
  simp only at hk hne hone
  unfold lineT
  simp only
  by_cases hl : x.getLast? = some 10
  · rw [if_pos hl, List.append_nil, List.cons_append]
    have hx : x = x.dropLast ++ [10] := by
      have := List.dropLast_concat_getLast hne
      rw [List.getLast?_eq_some_getLast hne] at hl
      rw [Option.some.inj hl] at this
      exact this.symm
    unfold ln1
    simp only
    rw [kd_sgn k hk, hx, List.append_assoc]
    rw [show x.dropLast ++ ([10] ++ r) = x.dropLast ++ 10 :: r from rfl, upto_write _ _ hone]
    simp only
    rw [(wrd_no hr).1]
  · rw [if_neg hl, noE_eq, List.cons_append, List.cons_append, ← List.append_assoc]
    have h10 : (10 : UInt8) ∉ x := fun hm => by
      rw [← List.dropLast_concat_getLast hne] at hm
      rcases List.mem_append.1 hm with h | h
      · exact hone h
      · rw [List.mem_singleton] at h
        rw [List.getLast?_eq_some_getLast hne, ← h] at hl
        exact hl rfl
    unfold ln1
    simp only
    rw [kd_sgn k hk, show (x ++ [10] ++ noM) ++ r = x ++ 10 :: (noM ++ r) by simp, upto_write _ _ h10]
    simp only
    rw [wrd_app]
    simp only
    rw [if_neg hne]
theorem ln1_read {s r : Str} {e : Ed} (h : ln1 s = some (e, r)) : s = lineT e ++ r ∧ WfE e ∧ (e.2.getLast? = some 10 → (wrd r noM).2 = false) := by
  unfold ln1 at h
  cases s with
  | nil => cases h
  | cons c t =>
    simp only at h
    cases hk : kdD c with
    | none => rw [hk] at h; cases h
    | some k =>
      rw [hk] at h
      cases hu : upto t with
      | none => rw [hu] at h; cases h
      | some y =>
        obtain ⟨x, r0⟩ := y
        rw [hu] at h
        simp only at h
        obtain ⟨e1, e2⟩ := upto_read hu
        obtain ⟨k1, k2⟩ := kd_back hk
        cases hw : (wrd r0 noM).2 with
        | true =>
          have h3 := wrd_ok hw
          have hp : wrd r0 noM = ((wrd r0 noM).1, true) := Prod.ext rfl hw
          rw [hp] at h
          simp only at h
          split at h
          · cases h
          · rename_i hx
            cases h
            have hl : ¬ x.getLast? = some 10 := fun hh => e2 (List.mem_of_getLast? hh)
            refine ⟨?_, ⟨k1, hx, fun hm => e2 (List.dropLast_subset _ hm)⟩, fun hh => absurd hh hl⟩
            unfold lineT
            simp only
            rw [if_neg hl, noE_eq, e1, k2]
            conv => lhs; rw [h3]
            simp
        | false =>
          have hp := (wrd_no hw).1
          rw [hp] at h
          simp only at h
          cases h
          refine ⟨?_, ⟨k1, by simp, by simpa using e2⟩, fun _ => hw⟩
          unfold lineT
          simp only
          rw [if_pos (by simp), e1, k2]
          simp
end Go.Proofs.YtmpjapcijjjlbaaGreatDoor
namespace Go.Proofs.YtmpjapcijjjlbaaGreatDoor
set_option linter.unusedVariables false
set_option linter.unusedSimpArgs false
def cA1 (e : Ed) : Nat := if e.1 = 2 then 0 else 1
def cB1 (e : Ed) : Nat := if e.1 = 1 then 0 else 1
theorem cA_cons (e : Ed) (L : List Ed) : cA (e :: L) = cA1 e + cA L := by
  unfold cA cA1
  by_cases h : e.1 = 2 <;> simp [h]; omega
theorem cB_cons (e : Ed) (L : List Ed) : cB (e :: L) = cB1 e + cB L := by
  unfold cB cB1
  by_cases h : e.1 = 1 <;> simp [h]; omega
def lnL (A B : Nat) : Nat → Nat → Nat → Str → Option (List Ed × Str)
  | 0, n, m, s => if n < A ∨ m < B then none else if n = A ∧ m = B then some ([], s) else none
  | f + 1, n, m, s => if n < A ∨ m < B then (match ln1 s with
      | none => none
      | some (e, r) => (lnL A B f (n + cA1 e) (m + cB1 e) r).map fun y => (e :: y.1, y.2))
    else if n = A ∧ m = B then some ([], s) else none
theorem lnL_read (A B : Nat) : ∀ (f n m : Nat) (s : Str) (es : List Ed) (r : Str), lnL A B f n m s = some (es, r) → s = es.flatMap lineT ++ r ∧ (∀ e ∈ es, WfE e) ∧ n + cA es = A ∧ m + cB es = B
  | 0, n, m, s, es, r, h => by
    rw [lnL] at h
    split at h
    · cases h
    · split at h
      · rename_i h2
        cases h
        exact ⟨rfl, (fun e he => by cases he), h2.1, h2.2⟩
      · cases h
  | f + 1, n, m, s, es, r, h => by
    rw [lnL] at h
    split at h
    · cases h1 : ln1 s with
      | none => rw [h1] at h; cases h
      | some y =>
        obtain ⟨e, r1⟩ := y
        rw [h1] at h
        simp only at h
        cases h2 : lnL A B f (n + cA1 e) (m + cB1 e) r1 with
        | none => rw [h2] at h; cases h
        | some z =>
          obtain ⟨es2, r2⟩ := z
          rw [h2] at h
          cases h
          obtain ⟨g1, g2, _⟩ := ln1_read h1
          obtain ⟨k1, k2, k3, k4⟩ := lnL_read A B f _ _ _ _ _ h2
          refine ⟨by rw [List.flatMap_cons, List.append_assoc, ← k1]; exact g1, fun x hx => ?_, by rw [cA_cons]; show n + (cA1 e + cA es2) = A; omega, by rw [cB_cons]; show m + (cB1 e + cB es2) = B; omega⟩
          rcases List.mem_cons.1 hx with rfl | hx
          · exact g2
          · exact k2 x hx
    · split at h
      · rename_i h2
        cases h
        exact ⟨rfl, (fun e he => by cases he), h2.1, h2.2⟩
      · cases h
theorem wrd_head (s : Str) (c : UInt8) (r : Str) (h : s = c :: r) (hc : c ≠ 92) : (wrd s noM).2 = false := by
  unfold wrd
  rw [if_neg]
  intro e
  rw [h] at e
  have := congrArg List.head? e
  have h2 : (List.take noM.length (c :: r)).head? = some c := by simp [noM]
  rw [h2] at this
  exact hc (Option.some.inj this)
theorem wrd_lines (es : List Ed) (r : Str) (he : ∀ e ∈ es, WfE e) (hr : (wrd r noM).2 = false) : (wrd (es.flatMap lineT ++ r) noM).2 = false := by
  cases es with
  | nil => exact hr
  | cons e es =>
    have hk := (he e (by simp)).k
    refine wrd_head _ (sgn e.1) ((e.2 ++ if e.2.getLast? = some 10 then [] else noE) ++ (es.flatMap lineT ++ r)) (by simp [lineT]) ?_
    rcases (by omega : e.1 = 0 ∨ e.1 = 1 ∨ e.1 = 2) with h | h | h <;> rw [h] <;> decide
theorem lnL_write (A B : Nat) : ∀ (es : List Ed) (f n m : Nat) (r : Str), (∀ e ∈ es, WfE e) → n + cA es = A → m + cB es = B → (wrd r noM).2 = false → es.length ≤ f → lnL A B f n m (es.flatMap lineT ++ r) = some (es, r)
  | [], f, n, m, r, _, h1, h2, _, _ => by
    have a : n = A := by simpa [cA] using h1
    have b : m = B := by simpa [cB] using h2
    cases f with
    | zero => rw [lnL, if_neg (by omega), if_pos ⟨a, b⟩]; rfl
    | succ f => rw [lnL, if_neg (by omega), if_pos ⟨a, b⟩]; rfl
  | e :: es, 0, n, m, r, _, _, _, _, hf => by simp at hf
  | e :: es, f + 1, n, m, r, he, h1, h2, hr, hf => by
    have hk := (he e (by simp)).k
    rw [cA_cons] at h1
    rw [cB_cons] at h2
    have hc : 0 < cA1 e + cB1 e := by
      unfold cA1 cB1
      split <;> split <;> omega
    have hes : ∀ x ∈ es, WfE x := fun x hx => he x (by simp [hx])
    rw [List.flatMap_cons, List.append_assoc, lnL, if_pos (by omega), ln1_write e _ (he e (by simp)) (wrd_lines es r hes hr)]
    simp only
    rw [lnL_write A B es f _ _ r hes (by omega) (by omega) hr (by simpa using hf)]
    rfl
abbrev Pz := Int × Int × List Ed
def hkL : Nat → Int → Int → Str → Option (List Pz)
  | 0, _, _, s => if s = [] then some [] else none
  | f + 1, e, g, s => if s = [] then some [] else if bgOk s then (match lnL (bgH s).2.1 (bgH s).2.2.2 (bg9 s).1.length 0 0 (bg9 s).1 with
      | none => none
      | some (es, r) => if es.any chE = true ∧ e ≤ (bgH s).1 ∧ (bgH s).2.2.1 = (bgH s).1 + g then (hkL f ((bgH s).1 + (bgH s).2.1) (g + (bgH s).2.2.2 - (bgH s).2.1) r).map fun y => ((bgH s).1, (bgH s).2.2.1, es) :: y else none)
    else none
def StP : Int → List Pz → Prop
  | _, [] => True
  | g, z :: r => z.2.1 = z.1 + g ∧ StP (g + ((cB z.2.2 : Nat) : Int) - ((cA z.2.2 : Nat) : Int)) r
theorem hkL_read : ∀ (f : Nat) (e g : Int) (s : Str) (zs : List Pz), 0 ≤ e → hkL f e g s = some zs → s = zs.flatMap hkP ∧ RgR e zs ∧ StP g zs ∧ (∀ z ∈ zs, (∀ x ∈ z.2.2, WfE x) ∧ 0 ≤ z.1 ∧ 0 ≤ z.2.1)
  | 0, e, g, s, zs, _, h => by
    rw [hkL] at h
    split at h
    · rename_i h0
      cases h
      exact ⟨h0, trivial, trivial, fun z hz => by cases hz⟩
    · cases h
  | f + 1, e, g, s, zs, he0, h => by
    rw [hkL] at h
    split at h
    · rename_i h0
      cases h
      exact ⟨h0, trivial, trivial, fun z hz => by cases hz⟩
    · split at h
      · rename_i hb
        obtain ⟨a, n, b, m, eH, eS, b1, b2, b3, b4⟩ := bg_read hb
        rw [eH] at h
        simp only at h
        cases hl : lnL n m (bg9 s).1.length 0 0 (bg9 s).1 with
        | none => rw [hl] at h; cases h
        | some y =>
          obtain ⟨es, r⟩ := y
          rw [hl] at h
          simp only at h
          split at h
          · rename_i hc
            cases hh : hkL f ((a : Int) + n) (g + m - n) r with
            | none => rw [hh] at h; cases h
            | some ys =>
              rw [hh] at h
              cases h
              obtain ⟨k1, k2, k3, k4⟩ := lnL_read n m _ _ _ _ _ _ hl
              obtain ⟨j1, j2, j3, j4⟩ := hkL_read f _ _ _ _ (by omega) hh
              have n1 : cA es = n := by omega
              have n2 : cB es = m := by omega
              refine ⟨?_, ⟨⟨by show ¬ (a : Int) < e; omega, ⟨?_, ?_, ?_, ?_⟩, hc.1, ?_⟩, ?_⟩, ⟨hc.2.2, ?_⟩, ?_⟩
              · rw [List.flatMap_cons]
                have e1 : hkP ((a : Int), (b : Int), es) = headT a n b m ++ es.flatMap lineT := by
                  unfold hkP
                  simp only [Int.toNat_natCast]
                  rw [n1, n2]
                rw [e1, List.append_assoc, ← j1, ← k1]
                exact eS
              · show (a : Int) + ((min (cA es) 1 : Nat) : Int) ≤ 999999999
                rw [n1]; omega
              · show ((cA es : Nat) : Int) ≤ 999999999
                omega
              · show (b : Int) + ((min (cB es) 1 : Nat) : Int) ≤ 999999999
                rw [n2]; omega
              · show ((cB es : Nat) : Int) ≤ 999999999
                omega
              · show es.any emE = false
                rw [List.any_eq_false]
                intro x hx
                unfold emE
                simpa using (k2 x hx).ne
              · show RgR ((a : Int) + ((cA es : Nat) : Int)) ys
                rw [n1]; exact j2
              · show StP (g + ((cB es : Nat) : Int) - ((cA es : Nat) : Int)) ys
                rw [n1, n2]; exact j3
              · intro z hz
                rcases List.mem_cons.1 hz with rfl | hz
                · exact ⟨k2, by show (0 : Int) ≤ a; omega, by show (0 : Int) ≤ b; omega⟩
                · exact j4 z hz
          · cases h
      · cases h
theorem hkP_head (z : Pz) (r : Str) : hkP z ++ r ≠ [] ∧ (wrd (hkP z ++ r) noM).2 = false := by
  have h : ∃ t, hkP z ++ r = 64 :: t := ⟨_, by unfold hkP headT; rfl⟩
  obtain ⟨t, h⟩ := h
  exact ⟨by rw [h]; simp, wrd_head _ 64 t h (by decide)⟩
theorem flat_head (zs : List Pz) : (wrd (zs.flatMap hkP) noM).2 = false := by
  cases zs with
  | nil => decide
  | cons z zs => rw [List.flatMap_cons]; exact (hkP_head z _).2
theorem lines_long : ∀ es : List Ed, es.length ≤ (es.flatMap lineT).length
  | [] => Nat.le_refl _
  | e :: es => by
    have := lines_long es
    have h : 0 < (lineT e).length := by unfold lineT; simp
    rw [List.flatMap_cons, List.length_append, List.length_cons]
    omega
theorem hkL_write : ∀ (zs : List Pz) (f : Nat) (e g : Int), RgR e zs → StP g zs → (∀ z ∈ zs, (∀ x ∈ z.2.2, WfE x) ∧ 0 ≤ z.1 ∧ 0 ≤ z.2.1) → zs.length ≤ f → hkL f e g (zs.flatMap hkP) = some zs
  | [], 0, e, g, _, _, _, _ => by rw [List.flatMap_nil, hkL, if_pos rfl]
  | [], f + 1, e, g, _, _, _, _ => by rw [List.flatMap_nil, hkL, if_pos rfl]
  | z :: zs, 0, e, g, _, _, _, h => by simp at h
  | z :: zs, f + 1, e, g, hr, hs, hw, hf => by
    obtain ⟨⟨r1, ⟨r2, r3, r4, r5⟩, r6, r7⟩, r8⟩ := hr
    obtain ⟨s1, s2⟩ := hs
    obtain ⟨w1, w2, w3⟩ := hw z (by simp)
    obtain ⟨za, zb, es⟩ := z
    obtain ⟨a, rfl⟩ := Int.eq_ofNat_of_zero_le w2
    obtain ⟨b, rfl⟩ := Int.eq_ofNat_of_zero_le w3
    simp only at r1 r2 r3 r4 r5 r6 r8 s1 s2 w1
    rw [List.flatMap_cons, hkL, if_neg (hkP_head _ _).1]
    have e1 : hkP ((a : Int), (b : Int), es) ++ zs.flatMap hkP = headT a (cA es) b (cB es) ++ (es.flatMap lineT ++ zs.flatMap hkP) := by
      unfold hkP
      simp only [Int.toNat_natCast]
      rw [List.append_assoc]
    obtain ⟨q1, q2, q3⟩ := bg_write a (cA es) b (cB es) (es.flatMap lineT ++ zs.flatMap hkP) (by omega) (by omega) (by omega) (by omega)
    rw [e1, if_pos q1, q2, q3]
    simp only
    rw [lnL_write (cA es) (cB es) es _ 0 0 (zs.flatMap hkP) w1 (by omega) (by omega) (flat_head zs) (by rw [List.length_append]; have := lines_long es; omega)]
    simp only
    rw [if_pos ⟨r6, by omega, s1⟩, hkL_write zs f _ _ r8 s2 (fun x hx => hw x (by simp [hx])) (by simpa using hf)]
    rfl
end Go.Proofs.YtmpjapcijjjlbaaGreatDoor
namespace Go.Proofs.YtmpjapcijjjlbaaGreatDoor
set_option linter.unusedVariables false
set_option linter.unusedSimpArgs false
theorem RgR.mem : ∀ {zs : List Pz} {e : Int}, RgR e zs → ∀ z ∈ zs, z.1 ≤ 999999999
  | z :: zs, e, h, x, hx => by
    rcases List.mem_cons.1 hx with rfl | hx
    · have := h.1.2.1.1
      have h2 : (x.1 + ((min (cA x.2.2) 1 : Nat) : Int)) ≤ 999999999 := this
      omega
    · exact RgR.mem h.2 x hx
theorem stl_zs : ∀ (zs : List Pz) (l : List Gh) (g : Int), l.map ab = zs.map (fun z => (z.1.toNat + min (cA z.2.2) 1, z.2.2)) → (∀ y ∈ l, 0 ≤ y.1) → (∀ z ∈ zs, 0 ≤ z.1) → StP g zs → (stl g l).map prj = zs
  | [], l, g, h, _, _, _ => by
    have : l = [] := by simpa using h
    rw [this]; rfl
  | z :: zs, [], g, h, _, _, _ => by cases h
  | z :: zs, y :: l, g, h, hl, hz, hs => by
    rw [List.map_cons, List.map_cons, List.cons.injEq] at h
    have e1 : y.1.toNat = z.1.toNat + min (cA z.2.2) 1 := congrArg Prod.fst h.1
    have e2 : y.2.2.2.2 = z.2.2 := congrArg Prod.snd h.1
    have p1 := hl y (by simp)
    have p2 := hz z (by simp)
    obtain ⟨s1, s2⟩ := hs
    rw [stl, List.map_cons, stl_zs zs l _ h.2 (fun x hx => hl x (by simp [hx])) (fun x hx => hz x (by simp [hx])) (by unfold dfG; rw [e2]; rw [show g + (((cB z.2.2 : Nat) : Int) - ((cA z.2.2 : Nat) : Int)) = g + ((cB z.2.2 : Nat) : Int) - ((cA z.2.2 : Nat) : Int) by omega]; exact s2)]
    congr 1
    unfold prj stG
    simp only
    rw [e2]
    refine Prod.ext ?_ (Prod.ext ?_ rfl)
    · show y.1 - ((min (cA z.2.2) 1 : Nat) : Int) = z.1; omega
    · show y.1 - ((min (cA z.2.2) 1 : Nat) : Int) + g = z.2.1; omega
theorem rgr_back : ∀ (l : List Gh) (e : Int), (∀ j, j < l.length → okG (if j = 0 then e else enA l j) (l.getD j g0)) → RgR e (l.map prj)
  | [], e, _ => trivial
  | y :: r, e, h => by
    refine ⟨h 0 (by simp), rgr_back r _ (fun j hj => ?_)⟩
    have := h (j + 1) (by simpa using hj)
    cases j with
    | zero => exact this
    | succ j => exact this
theorem rgt_rgr (l : List Gh) (h : Rgt l) : RgR 0 (l.map prj) := rgr_back l 0 (fun j hj => by
  have := h j hj
  cases j with
  | zero => exact this
  | succ j => exact this)
theorem stl_stp : ∀ (l : List Gh) (g : Int), StP g ((stl g l).map prj)
  | [], g => trivial
  | y :: r, g => by
    rw [stl, List.map_cons]
    refine ⟨rfl, ?_⟩
    have := stl_stp r (g + dfG y)
    unfold dfG at this
    show StP (g + ((cB y.2.2.2.2 : Nat) : Int) - ((cA y.2.2.2.2 : Nat) : Int)) _
    unfold dfG
    rw [show g + (((cB y.2.2.2.2 : Nat) : Int) - ((cA y.2.2.2.2 : Nat) : Int)) = g + ((cB y.2.2.2.2 : Nat) : Int) - ((cA y.2.2.2.2 : Nat) : Int) by omega] at this ⊢
    exact this
def On (x : Str) : Prop := (10 : UInt8) ∉ x.dropLast
theorem On.drop {x : Str} (h : On x) : On (x.drop 1) := by
  cases x with
  | nil => exact h
  | cons c r =>
    intro hm
    cases r with
    | nil => simp at hm
    | cons d t =>
      refine h ?_
      rw [List.dropLast_cons_cons]
      exact List.mem_cons_of_mem _ hm
theorem On.tr {x : Str} (h : On x) : On (trE x) := by
  unfold trE Lib.trimSuffix
  split
  · intro hm
    have h1 : (x.take (x.length - ([10] : Str).length)) = x.dropLast := by rw [List.dropLast_eq_take]; rfl
    rw [h1] at hm
    exact h (List.dropLast_subset _ hm)
  · exact h
def OnL (st : List Rh) : Prop := ∀ h ∈ st, ∀ e ∈ h.2, On e.2
theorem rdS_on (st : List Rh) (x : Str) (h : OnL st) (hx : On x) : OnL (rdS st x) := by
  rcases rdS_cases st x with e | e | ⟨s0, a, es, ed, e1, e2⟩ | ⟨s0, a, es, e1, e2⟩
  · rw [e]
    intro y hy
    rcases List.mem_append.1 hy with hy | hy
    · exact h y hy
    · rw [List.mem_singleton.1 hy]; intro e he; cases he
  · rw [e]; exact h
  · rw [e2]
    rw [e1] at h
    intro y hy
    rcases List.mem_append.1 hy with hy | hy
    · exact h y (by simp [hy])
    · rw [List.mem_singleton.1 hy]
      have h0 := h (a, es ++ [ed]) (by simp)
      intro e he
      rcases List.mem_append.1 he with he | he
      · exact h0 e (by simp [he])
      · rw [List.mem_singleton.1 he]
        exact (h0 ed (by simp)).tr
  · rw [e2]
    rw [e1] at h
    intro y hy
    rcases List.mem_append.1 hy with hy | hy
    · exact h y (by simp [hy])
    · rw [List.mem_singleton.1 hy]
      have h0 := h (a, es) (by simp)
      intro e he
      rcases List.mem_append.1 he with he | he
      · exact h0 e he
      · rw [List.mem_singleton.1 he]
        exact hx.drop
theorem fold_on : ∀ (L : List Str) (st : List Rh), OnL st → (∀ x ∈ L, On x) → OnL (L.foldl rdS st)
  | [], st, h, _ => h
  | x :: L, st, h, hx => fold_on L _ (rdS_on st x h (hx x (by simp))) (fun y hy => hx y (by simp [hy]))
theorem rdH_on (s : Str) : OnL (rdH s) := fold_on _ _ (fun h hh => by cases hh) (lns_one s)
theorem flat_long : ∀ zs : List Pz, zs.length ≤ (zs.flatMap hkP).length
  | [] => Nat.le_refl _
  | z :: zs => by
    have := flat_long zs
    have h : 0 < (hkP z).length := by unfold hkP headT; simp
    rw [List.flatMap_cons, List.length_append, List.length_cons]
    omega
theorem hk_good (p : Str) (l : List Gh) (hr : Rd p l) :
    (∀ zs, hkL p.length 0 0 p = some zs → Good p l ∧ (stl 0 l).map prj = zs) ∧ (Good p l → hkL p.length 0 0 p = some ((stl 0 l).map prj)) := by
  constructor
  · intro zs h
    obtain ⟨h1, h2, h3, h4⟩ := hkL_read _ _ _ _ _ (Int.le_refl 0) h
    have hrd : l.map ab = zs.map (fun z => (z.1.toNat + min (cA z.2.2) 1, z.2.2)) := by
      rw [hr.1]
      have hpt : p = wHs (zs.map (fun z => (z.1.toNat, z.2.1.toNat, z.2.2))) := by
        rw [h1]
        unfold wHs
        rw [List.flatMap_map]
        rfl
      rw [hpt]
      unfold rdH
      rw [rd_back _ [] (fun x hx => by
        obtain ⟨z, hz, rfl⟩ := List.mem_map.1 hx
        have := h2.mem z hz
        exact ⟨by show z.1.toNat + 1 < _; omega, (h4 z hz).1⟩), List.nil_append, List.map_map]
      rfl
    have hst := stl_zs zs l 0 hrd (fun y hy => (hr.2.1 y hy).1.1) (fun z hz => (h4 z hz).2.1) h3
    refine ⟨⟨rgr_ok _ (by rw [hst]; exact h2), ?_⟩, hst⟩
    rw [flat_prj, hst]
    exact h1.symm
  · intro hg
    obtain ⟨g1, g2⟩ := hg
    have hn := rgt_nok (stl_iok hr.2.1 hr.2.2.1 hr.2.2.2) g1
    have hp : p = ((stl 0 l).map prj).flatMap hkP := by rw [← flat_prj]; exact g2.symm
    have hw : ∀ z ∈ (stl 0 l).map prj, (∀ x ∈ z.2.2, WfE x) ∧ 0 ≤ z.1 ∧ 0 ≤ z.2.1 := fun z hz => by
      obtain ⟨y, hy, rfl⟩ := List.mem_map.1 hz
      obtain ⟨⟨x1, e1, _⟩, ⟨x2, e2, _⟩, _, hl⟩ := hn y hy
      refine ⟨fun e he => ⟨(hl e he).1, ?_, ?_⟩, by show 0 ≤ y.1; omega, by show 0 ≤ y.2.1; omega⟩
      · obtain ⟨j, hj, e⟩ := List.getElem_of_mem hy
        have hk := (g1 j hj).2.2.2
        rw [List.getD_eq_getElem?_getD, List.getElem?_eq_getElem hj] at hk
        simp only [Option.getD_some] at hk
        rw [e] at hk
        have := List.any_eq_false.1 hk _ he
        unfold emE at this
        simpa using this
      · obtain ⟨i, hi, e0⟩ := stl_mem l 0 y hy
        have hes : y.2.2.2.2 = (l.getD i g0).2.2.2.2 := by rw [e0]; rfl
        have hm : ab (l.getD i g0) ∈ rdH p := by rw [← hr.1]; exact List.mem_map_of_mem (getD_mem l i g0 hi)
        exact rdH_on p _ hm e (by show e ∈ (l.getD i g0).2.2.2.2; rw [← hes]; exact he)
    have hf := flat_long ((stl 0 l).map prj)
    rw [← hp] at hf
    have := hkL_write _ p.length 0 0 (rgt_rgr _ g1) (stl_stp l 0) hw hf
    rw [← hp] at this
    exact this
end Go.Proofs.YtmpjapcijjjlbaaGreatDoor
namespace Go.Proofs.YtmpjapcijjjlbaaGreatDoor
set_option linter.unusedVariables false
set_option linter.unusedSimpArgs false
theorem upto_at : ∀ {t x r : Str}, upto t = some (x, r) → x.length < t.length ∧ t.getD x.length 0 = 10 ∧ (∀ i, i < x.length → t.getD i 0 ≠ 10) ∧ x = t.take x.length ∧ r = t.drop (x.length + 1)
  | t, x, r, h => by
    obtain ⟨h1, h2⟩ := upto_read h
    subst h1
    refine ⟨by simp, ?_, fun i hi => ?_, by simp, ?_⟩
    · rw [List.getD_eq_getElem?_getD, List.getElem?_append_right (Nat.le_refl _), Nat.sub_self]
      rfl
    · rw [List.getD_eq_getElem?_getD, List.getElem?_append_left hi, List.getElem?_eq_getElem hi]
      intro e
      refine h2 ?_
      simp only [Option.getD_some] at e
      rw [← e]
      exact List.getElem_mem hi
    · rw [show x ++ 10 :: r = (x ++ [10]) ++ r by simp, show x.length + 1 = (x ++ [10]).length by simp, List.drop_left]
theorem upto_no : ∀ {t : Str}, upto t = none → ∀ i, i < t.length → t.getD i 0 ≠ 10
  | [], _, i, hi => by simp at hi
  | c :: t, h, i, hi => by
    rw [upto] at h
    split at h
    · cases h
    · rename_i hc
      cases hu : upto t with
      | some y => rw [hu] at h; cases h
      | none =>
        cases i with
        | zero => exact hc
        | succ i => exact upto_no hu i (by simpa using hi)
theorem ln1_less {s r : Str} {e : Ed} (h : ln1 s = some (e, r)) : r.length < s.length := by
  have h1 := (ln1_read h).1
  have h2 : 0 < (lineT e).length := by unfold lineT; simp
  rw [h1, List.length_append]
  omega
theorem lnL_fuel (A B : Nat) : ∀ (f f' n m : Nat) (s : Str), s.length ≤ f → s.length ≤ f' → lnL A B f n m s = lnL A B f' n m s
  | 0, 0, n, m, s, _, _ => rfl
  | 0, f' + 1, n, m, s, h, _ => by
    have : s = [] := List.length_eq_zero_iff.1 (by omega)
    subst this
    rw [lnL, lnL]
    split
    · rfl
    · rfl
  | f + 1, 0, n, m, s, _, h => by
    have : s = [] := List.length_eq_zero_iff.1 (by omega)
    subst this
    rw [lnL, lnL]
    split
    · rfl
    · rfl
  | f + 1, f' + 1, n, m, s, h, h' => by
    rw [lnL, lnL]
    split
    · cases h1 : ln1 s with
      | none => rfl
      | some y =>
        obtain ⟨e, r⟩ := y
        have := ln1_less h1
        simp only
        rw [lnL_fuel A B f f' _ _ r (by omega) (by omega)]
    · rfl
def lnX (A B n m : Nat) (s : Str) : Option (List Ed × Str) := lnL A B s.length n m s
theorem lnX_end (A B n m : Nat) (s : Str) (h : ¬ (n < A ∨ m < B)) : lnX A B n m s = if n = A ∧ m = B then some ([], s) else none := by
  unfold lnX
  cases s.length with
  | zero => rw [lnL, if_neg h]
  | succ f => rw [lnL, if_neg h]
theorem lnX_none (A B n m : Nat) (s : Str) (h : n < A ∨ m < B) (h1 : ln1 s = none) : lnX A B n m s = none := by
  unfold lnX
  cases s.length with
  | zero => rw [lnL, if_pos h]
  | succ f => rw [lnL, if_pos h, h1]
theorem lnX_some (A B n m : Nat) (s : Str) (h : n < A ∨ m < B) (e : Ed) (r : Str) (h1 : ln1 s = some (e, r)) : lnX A B n m s = (lnX A B (n + cA1 e) (m + cB1 e) r).map fun y => (e :: y.1, y.2) := by
  have hl := ln1_less h1
  unfold lnX
  obtain ⟨f, hf⟩ : ∃ f, s.length = f + 1 := ⟨s.length - 1, by omega⟩
  rw [hf, lnL, if_pos h, h1]
  simp only
  rw [lnL_fuel A B f r.length _ _ r (by omega) (Nat.le_refl _)]
theorem bg9_less {s : Str} (h : bgOk s) : (bg9 s).1.length < s.length := by
  obtain ⟨a, n, b, m, _, e, _⟩ := bg_read h
  have h2 : 0 < (headT a n b m).length := by unfold headT; simp
  have h3 := congrArg List.length e
  rw [List.length_append] at h3
  omega
theorem hkL_fuel : ∀ (f f' : Nat) (e g : Int) (s : Str), s.length ≤ f → s.length ≤ f' → hkL f e g s = hkL f' e g s
  | 0, 0, e, g, s, _, _ => rfl
  | 0, f' + 1, e, g, s, h, _ => by
    have : s = [] := List.length_eq_zero_iff.1 (by omega)
    subst this
    rw [hkL, hkL, if_pos rfl, if_pos rfl]
  | f + 1, 0, e, g, s, _, h => by
    have : s = [] := List.length_eq_zero_iff.1 (by omega)
    subst this
    rw [hkL, hkL, if_pos rfl, if_pos rfl]
  | f + 1, f' + 1, e, g, s, h, h' => by
    rw [hkL, hkL]
    split
    · rfl
    · split
      · rename_i hb
        cases hl : lnL (bgH s).2.1 (bgH s).2.2.2 (bg9 s).1.length 0 0 (bg9 s).1 with
        | none => rfl
        | some y =>
          obtain ⟨es, r⟩ := y
          have h1 := bg9_less hb
          have h2 := congrArg List.length (lnL_read _ _ _ _ _ _ _ _ hl).1
          rw [List.length_append] at h2
          simp only
          rw [hkL_fuel f f' _ _ r (by omega) (by omega)]
      · rfl
def hkX (e g : Int) (s : Str) : Option (List Pz) := hkL s.length e g s
theorem hkX_nil (e g : Int) : hkX e g [] = some [] := by unfold hkX; rw [List.length_nil, hkL, if_pos rfl]
theorem hkX_bad (e g : Int) (s : Str) (hs : s ≠ []) (h : ¬ bgOk s) : hkX e g s = none := by
  unfold hkX
  obtain ⟨f, hf⟩ : ∃ f, s.length = f + 1 := ⟨s.length - 1, by have := List.length_pos_iff.2 hs; omega⟩
  rw [hf, hkL, if_neg hs, if_neg h]
theorem hkX_no (e g : Int) (s : Str) (hs : s ≠ []) (h : bgOk s) (h1 : lnX (bgH s).2.1 (bgH s).2.2.2 0 0 (bg9 s).1 = none) : hkX e g s = none := by
  unfold hkX
  unfold lnX at h1
  obtain ⟨f, hf⟩ : ∃ f, s.length = f + 1 := ⟨s.length - 1, by have := List.length_pos_iff.2 hs; omega⟩
  rw [hf, hkL, if_neg hs, if_pos h, h1]
theorem hkX_go (e g : Int) (s : Str) (hs : s ≠ []) (h : bgOk s) (es : List Ed) (r : Str) (h1 : lnX (bgH s).2.1 (bgH s).2.2.2 0 0 (bg9 s).1 = some (es, r)) :
    r.length < s.length ∧ hkX e g s = if es.any chE = true ∧ e ≤ (bgH s).1 ∧ (bgH s).2.2.1 = (bgH s).1 + g then (hkX ((bgH s).1 + (bgH s).2.1) (g + (bgH s).2.2.2 - (bgH s).2.1) r).map (fun y => ((bgH s).1, (bgH s).2.2.1, es) :: y) else none := by
  unfold lnX at h1
  have h2 := congrArg List.length (lnL_read _ _ _ _ _ _ _ _ h1).1
  rw [List.length_append] at h2
  have h3 := bg9_less h
  refine ⟨by omega, ?_⟩
  unfold hkX
  obtain ⟨f, hf⟩ : ∃ f, s.length = f + 1 := ⟨s.length - 1, by omega⟩
  rw [hf, hkL, if_neg hs, if_pos h, h1]
  simp only
  rw [hkL_fuel f r.length _ _ r (by omega) (Nat.le_refl _)]
end Go.Proofs.YtmpjapcijjjlbaaGreatDoor
