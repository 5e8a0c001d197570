/- 'toldCodes'. -/
import Derived.Test.YtbiibhpknflagaaDoorToldC
namespace Go.Proofs.YtbiibhpknflagaaDoor
open Go.RowKit Plain
set_option linter.unusedVariables false

def codeB (l : List Nat) : Bool := wholeB (cntOf l) || bareB (cntOf l)
/-- 1.5: the codes that stand in the stream: the lengths of both, and the bit behind them. -/
def toldOf (zs : List Int) (p : Nat) : Option (List Nat × List Nat × Nat) :=
  if 8 * zs.length < p + 5 then none
  else if 8 * zs.length < p + 5 + 5 then none
  else if 286 < getB zs p 5 + 257 ∨ 30 < getB zs (p + 5) 5 + 1 then none
  else if 8 * zs.length < p + 5 + 5 + 4 then none
  else if 8 * zs.length < p + 5 + 5 + 4 + 3 * (getB zs (p + 5 + 5) 4 + 4) then none
  else if wholeB (cntOf (thTo zs (p + 5 + 5 + 4) (getB zs (p + 5 + 5) 4 + 4))) = false then none
  else match rowF (dec (cntOf (thTo zs (p + 5 + 5 + 4) (getB zs (p + 5 + 5) 4 + 4))) (srtOf (thTo zs (p + 5 + 5 + 4) (getB zs (p + 5 + 5) 4 + 4))) zs) zs (getB zs p 5 + 257 + (getB zs (p + 5) 5 + 1)) (getB zs p 5 + 257 + (getB zs (p + 5) 5 + 1)) (p + 5 + 5 + 4 + 3 * (getB zs (p + 5 + 5) 4 + 4)) [] with
    | none => none
    | some (q, row) =>
      if row.getD 256 0 = 0 then none
      else if codeB (row.take (getB zs p 5 + 257)) = false then none
      else if codeB (row.drop (getB zs p 5 + 257)) = false then none
      else some (row.take (getB zs p 5 + 257), row.drop (getB zs p 5 + 257), q)

theorem layTo_lt (lens : List Nat) (h : 0 < lens.length) : ∀ k, k ≤ lens.length → ∀ x ∈ (layTo lens k).2, x < lens.length
  | 0, _, x, hx => by rw [layTo] at hx; have := List.eq_of_mem_replicate hx; omega
  | k + 1, hk, x, hx => by
    rw [layTo] at hx
    unfold lay at hx
    by_cases h0 : 0 < lens.getD k 0
    · rw [if_pos h0] at hx
      rcases List.mem_or_eq_of_mem_set hx with h' | h'
      · exact layTo_lt lens h k (by omega) x h'
      · omega
    · rw [if_neg h0] at hx; exact layTo_lt lens h k (by omega) x hx
theorem srtOf_lt (lens : List Nat) (h : 0 < lens.length) (i : Nat) : (srtOf lens).getD i 0 < lens.length := by
  by_cases hi : i < (srtOf lens).length
  · rw [List.getD_eq_getElem?_getD, List.getElem?_eq_getElem hi]; exact layTo_lt lens h _ (Nat.le_refl _) _ (List.getElem_mem hi)
  · rw [List.getD_eq_getElem?_getD, List.getElem?_eq_none (by omega)]; simpa using h
theorem codeOK_of (lens : List Nat) (h : lens.length ≤ 400) : CodeOK (cntOf lens) (srtOf lens) :=
  ⟨fun i => by have := cntOf_le lens i; omega, (srtOf_len lens).symm, by rw [srtOf_len]; have := below_le_length lens; omega⟩

/-- 'bareCode', whichever it is. -/
theorem bareCode_ok (S b off cap : Nat) (lens : List Nat) (w : World) (hl : lens.length ≤ 400) (h15 : ∀ x ∈ lens, x ≤ 15) (hat : AtI w b off lens) (hb : b < w.heap.size) (hc : codeB lens = true) :
    Calls Tryd.prog 61 #[.pointer (some ⟨S, 0, none⟩), .slice (some ⟨b, off, none⟩) lens.length cap] w fun e w' => ∃ L, e = .returned (codeV L) ∧ Below w.heap.size w w' ∧ New w w' S L (cntOf lens) (srtOf lens) := by
  cases hw : wholeB (cntOf lens) with
  | true => exact bareCode_whole S b off cap lens w hl h15 hat hb hw
  | false => exact bareCode_bare S b off cap lens w hl h15 hat hb hw (by unfold codeB at hc; rw [hw] at hc; simpa using hc)
theorem bareCode_none (S b off cap : Nat) (lens : List Nat) (w : World) (hl : lens.length ≤ 400) (h15 : ∀ x ∈ lens, x ≤ 15) (hat : AtI w b off lens) (hb : b < w.heap.size) (hc : codeB lens = false) :
    Calls Tryd.prog 61 #[.pointer (some ⟨S, 0, none⟩), .slice (some ⟨b, off, none⟩) lens.length cap] w fun e w' => e = .panicked (errv 10) ∧ Below w.heap.size w w' := by
  unfold codeB at hc
  rw [Bool.or_eq_false_iff] at hc
  exact bareCode_bad S b off cap lens w hl h15 hat hb hc.1 hc.2

set_option maxRecDepth 20000 in
set_option maxHeartbeats 2000000 in
theorem toldCodes_any (E : Env) (p : Nat) (v : Value) (w : World) (hz : IsB E.zs) (hl : E.zs.length ≤ 400000) (h : Rd w E p v) (ht : Tabs w E v) (hvb : ∀ k, v.ownBlock = some k → k < w.heap.size) :
    Calls Tryd.prog 32 #[.pointer (some ⟨E.S, 0, none⟩)] w fun e w' => Kept E.S (.bool true) (.bool true) w w' ∧
      match toldOf E.zs p with
      | some (l, d, q) => Rd w' E q v ∧ l.length ≤ 400 ∧ 0 < l.length ∧ d.length ≤ 400 ∧ 0 < d.length ∧ ∃ L M, e = .returned (.tuple #[codeV L, codeV M]) ∧ New w w' E.S L (cntOf l) (srtOf l) ∧ New w w' E.S M (cntOf d) (srtOf d)
      | none => e = .panicked (errv 10) := by
  obtain ⟨r, HR0⟩ : ∃ r, Hid (toldOf E.zs p = r) := ⟨_, rfl⟩
  rw [HR0.out]
  have E0 := HR0.out
  unfold toldOf at E0
  have hSl := h.lt
  by_cases h5 : 8 * E.zs.length < p + 5
  · rw [if_pos h5] at E0
    subst E0
    go_enter Tryd.func32, Tryd.ntmps32
    go_wp2_with fail
    refine (number_bad E p 5 v w hz hl (by omega) h h5).mono ?_
    rintro e w1 ⟨rfl, k1⟩
    exact ⟨rfl, k1, rfl⟩
  rw [if_neg h5] at E0
  have ga : getB E.zs p 5 ≤ 31 := by have := getB_lt E.zs p 5; omega
  obtain ⟨a, HA⟩ : ∃ a, Hid (a = getB E.zs p 5) := ⟨_, rfl⟩
  rw [← HA.out] at ga E0
  go_enter Tryd.func32, Tryd.ntmps32
  go_wp2_with fail
  refine (number_ok E p 5 v w hz hl (by omega) h (by omega)).mono ?_
  rintro e w1 ⟨rfl, r1, k1⟩
  rw [← HA.out]
  by_cases h10 : 8 * E.zs.length < p + 5 + 5
  · rw [if_pos h10] at E0
    subst E0
    go_wp2_with fail
    refine (number_bad E (p + 5) 5 v w1 hz hl (by omega) r1 h10).mono ?_
    rintro e w2 ⟨rfl, k2⟩
    exact ⟨rfl, k1.trans k2, rfl⟩
  rw [if_neg h10] at E0
  have gb : getB E.zs (p + 5) 5 ≤ 31 := by have := getB_lt E.zs (p + 5) 5; omega
  obtain ⟨b, HB⟩ : ∃ b, Hid (b = getB E.zs (p + 5) 5) := ⟨_, rfl⟩
  rw [← HB.out] at gb E0
  go_wp2_with fail
  refine (number_ok E (p + 5) 5 v w1 hz hl (by omega) r1 (by omega)).mono ?_
  rintro e w2 ⟨rfl, r2, k2⟩
  rw [← HB.out]
  have K2 := k1.trans k2
  have HK2 : Hid (Kept E.S (.bool true) (.bool true) w w2) := K2
  by_cases h30 : 286 < a + 257 ∨ 30 < b + 1
  · rw [if_pos h30] at E0
    subst E0
    by_cases ha : (286 : Int) < (a : Int) + 257
    · clear h30
      go_wp2
      exact ⟨rfl, HK2.out, rfl⟩
    · have hb30 : (30 : Int) < (b : Int) + 1 := by omega
      clear h30
      go_wp2
      exact ⟨rfl, HK2.out, rfl⟩
  rw [if_neg h30] at E0
  have ha' : ¬ (286 : Int) < (a : Int) + 257 := by omega
  have hb' : ¬ (30 : Int) < (b : Int) + 1 := by omega
  by_cases h14 : 8 * E.zs.length < p + 5 + 5 + 4
  · rw [if_pos h14] at E0
    subst E0
    clear h30
    go_wp2_with fail
    refine (number_bad E (p + 5 + 5) 4 v w2 hz hl (by omega) r2 h14).mono ?_
    rintro e w3 ⟨rfl, k3⟩
    exact ⟨rfl, HK2.out.trans k3, rfl⟩
  rw [if_neg h14] at E0
  have gc : getB E.zs (p + 5 + 5) 4 ≤ 15 := by have := getB_lt E.zs (p + 5 + 5) 4; omega
  obtain ⟨c, HC⟩ : ∃ c, Hid (c = getB E.zs (p + 5 + 5) 4) := ⟨_, rfl⟩
  rw [← HC.out] at gc E0
  have h30' : a + 257 ≤ 286 ∧ b + 1 ≤ 30 := by omega
  clear h30
  go_wp2_with fail
  refine (number_ok E (p + 5 + 5) 4 v w2 hz hl (by omega) r2 (by omega)).mono ?_
  rintro e w3 ⟨rfl, r3, k3⟩
  rw [← HC.out]
  have K3 := K2.trans k3
  have t3 := ht.kept (K3.weak v)
  clear r1 r2 k1 k2 k3
  have e4 : ((c : Int) + 4) = ((c + 4 : Nat) : Int) := by omega
  have HE4 : Hid _ := e4
  clear e4
  by_cases h3 : 8 * E.zs.length < p + 5 + 5 + 4 + 3 * (c + 4)
  · rw [if_pos h3] at E0
    subst E0
    go_wp2_with fail
    rw [HE4.out]
    refine (thirdCode_short E (p + 5 + 5 + 4) (c + 4) v w3 hz hl r3 t3 (by omega) h3 (by omega)).mono ?_
    rintro e w4 ⟨rfl, k4⟩
    exact ⟨rfl, K3.trans k4, rfl⟩
  rw [if_neg h3] at E0
  obtain ⟨th, HT⟩ : ∃ th, Hid (th = thTo E.zs (p + 5 + 5 + 4) (c + 4)) := ⟨_, rfl⟩
  have hthl : th.length = 19 := by rw [HT.out]; exact thTo_len _ _ _
  rw [← HT.out] at E0
  cases hwh : wholeB (cntOf th) with
  | false =>
    rw [if_pos hwh] at E0
    subst E0
    go_wp2_with fail
    rw [HE4.out]
    refine (thirdCode_any E (p + 5 + 5 + 4) (c + 4) v w3 hz hl r3 t3 (by omega) (by omega)).mono ?_
    rintro e w4 ⟨k4, -, he⟩
    rw [← HT.out] at he
    rcases he with ⟨hw, _⟩ | ⟨_, rfl⟩
    · rw [hwh] at hw; cases hw
    · exact ⟨rfl, K3.trans k4, rfl⟩
  | true =>
    rw [if_neg (by rw [hwh]; simp)] at E0
    go_wp2_with fail
    rw [HE4.out]
    refine (thirdCode_any E (p + 5 + 5 + 4) (c + 4) v w3 hz hl r3 t3 (by omega) (by omega)).mono ?_
    rintro e w4 ⟨k4, r4, he⟩
    rw [← HT.out] at he
    have he' : ∃ L, e = .returned (codeV L) ∧ New w3 w4 E.S L (cntOf th) (srtOf th) := by
      rcases he with ⟨_, L, h1, h2⟩ | ⟨hw, _⟩
      · exact ⟨L, h1, h2⟩
      · rw [hwh] at hw; cases hw
    obtain ⟨L, rfl, hL⟩ := he'
    clear he
    have K4 := K3.trans k4
    have hvb3 : ∀ k, v.ownBlock = some k → k < w3.heap.size := fun k e => by have := hvb k e; have := K3.size; omega
    have hcL : CodeAt w4 E v L (cntOf th) (srtOf th) := hL.codeAt (by have := K3.size; omega) hvb3
    have hvb4 : ∀ k, v.ownBlock = some k → k < w4.heap.size := fun k e => by have := hvb3 k e; have := k4.size; omega
    obtain ⟨size, HZ⟩ : ∃ z, Hid (z = a + 257 + (b + 1)) := ⟨_, rfl⟩
    have hsz := HZ.out
    have HSZ : Hid ((a : Int) + 257 + ((b : Int) + 1) = ((size : Nat) : Int)) := by show _ = _; omega
    rw [← HZ.out] at E0
    clear hL k4 r3
    unfold codeV
    go_wp2_with fail
    rw [HSZ.out]
    refine (readRow_any E (p + 5 + 5 + 4 + 3 * (c + 4)) size v w4 hz hl r4 (by omega) hvb4 L (cntOf th) (srtOf th) hcL (codeOK_of th (by omega)) (fun i => by have := srtOf_lt th (by omega) i; omega)).mono ?_
    rintro e w5 ⟨k5, he⟩
    cases hrow : rowF (dec (cntOf th) (srtOf th) E.zs) E.zs size size (p + 5 + 5 + 4 + 3 * (c + 4)) [] with
    | none =>
      rw [hrow] at he E0
      simp only [] at he E0
      subst E0
      subst he
      exact ⟨rfl, K4.trans k5, rfl⟩
    | some qr =>
      obtain ⟨q, row⟩ := qr
      rw [hrow] at he E0
      simp only [] at he E0
      obtain ⟨r5, hrl, hr15, vr, rfl, hown⟩ := he
      have K5 := K4.trans k5
      obtain ⟨g, cp, rfl, hg1, hg2⟩ := hown.form (by omega)
      have hcell : ∀ i, i < size → w5.cell? ⟨g, i, none⟩ = some (.int .i64 (row.getD i 0 : Nat)) := fun i hi => by rw [hown.cellAt i (by omega), arr_at row i (by omega)]
      have hcp : size ≤ cp := by
        obtain ⟨_, ⟨h, _⟩ | ⟨g', cap', cur, hv, _, _, hle, _⟩⟩ := hown
        · cases h
        · simp only [Value.slice.injEq] at hv; omega
      have hcpm : cp ≤ maxLen := by
        obtain ⟨_, ⟨h, _⟩ | ⟨g', cap', cur, hv, _, _, _, hle, _⟩⟩ := hown
        · cases h
        · simp only [Value.slice.injEq] at hv; omega
      unfold maxLen at hcpm
      have HK5 : Hid (Kept E.S (.bool true) (.bool true) w w5) := K5
      have HR5 : Hid (Rd w5 E q v) := r5
      have c256 := hcell 256 (by omega)
      obtain ⟨x, HX⟩ : ∃ x, Hid (x = row.getD 256 0) := ⟨_, rfl⟩
      rw [← HX.out] at c256 E0
      have h256 : (256 : Int) < size := by omega
      clear hrow hown r4 r5 k5 K3 K4 K2 hcL
      by_cases hx0 : x = 0
      · subst hx0
        rw [if_pos rfl] at E0
        subst E0
        go_wp2
        exact ⟨rfl, HK5.out, rfl⟩
      rw [if_neg hx0] at E0
      have hx0' : ((x : Int) == 0) = false := by simp; omega
      have hnk : ¬ a + 257 + (b + 1) = a + 257 := by omega
      have hA1 : ((a + 257 : Nat) : Int) ≤ ((a + 257 + (b + 1) : Nat) : Int) := by omega
      have hcpZ : (a : Int) + 257 ≤ cp := by omega
      obtain ⟨l, Hl⟩ : ∃ l, Hid (l = row.take (a + 257)) := ⟨_, rfl⟩
      obtain ⟨d, Hd⟩ : ∃ d, Hid (d = row.drop (a + 257)) := ⟨_, rfl⟩
      rw [← Hl.out, ← Hd.out] at E0
      have hll : l.length = a + 257 := by rw [Hl.out, List.length_take]; omega
      have hdl : d.length = b + 1 := by rw [Hd.out, List.length_drop]; omega
      have hl15 : ∀ z ∈ l, z ≤ 15 := fun z hz => by rw [Hl.out] at hz; exact hr15 z (List.mem_of_mem_take hz)
      have hd15 : ∀ z ∈ d, z ≤ 15 := fun z hz => by rw [Hd.out] at hz; exact hr15 z (List.mem_of_mem_drop hz)
      have hat1 : AtI w5 g 0 l := fun i hi => by
        rw [Nat.zero_add, hcell i (by omega), Hl.out]; simp [show i < a + 257 by omega]
      have hat2 : AtI w5 g (a + 257) d := fun i hi => by
        rw [hcell (a + 257 + i) (by omega), Hd.out]; simp
      have C1 : ∀ W, Below w5.heap.size w5 W → codeB l = true → Calls Tryd.prog 61 #[.pointer (some ⟨E.S, 0, none⟩), .slice (some ⟨g, 0, none⟩) (a + 257) cp] W fun e w' => ∃ L, e = .returned (codeV L) ∧ Below W.heap.size W w' ∧ New W w' E.S L (cntOf l) (srtOf l) := fun W hW hc => by
        rw [← hll]; exact bareCode_ok E.S g 0 cp l W (by omega) hl15 (fun i hi => (hW.cell (p := ⟨g, 0 + i, none⟩) hg2).trans (hat1 i hi)) (by have := hW.size; omega) hc
      have C1n : ∀ W, Below w5.heap.size w5 W → codeB l = false → Calls Tryd.prog 61 #[.pointer (some ⟨E.S, 0, none⟩), .slice (some ⟨g, 0, none⟩) (a + 257) cp] W fun e w' => e = .panicked (errv 10) ∧ Below W.heap.size W w' := fun W hW hc => by
        rw [← hll]; exact bareCode_none E.S g 0 cp l W (by omega) hl15 (fun i hi => (hW.cell (p := ⟨g, 0 + i, none⟩) hg2).trans (hat1 i hi)) (by have := hW.size; omega) hc
      have C2 : ∀ W, Below w5.heap.size w5 W → codeB d = true → Calls Tryd.prog 61 #[.pointer (some ⟨E.S, 0, none⟩), .slice (some ⟨g, a + 257, none⟩) (b + 1) (cp - (a + 257))] W fun e w' => ∃ L, e = .returned (codeV L) ∧ Below W.heap.size W w' ∧ New W w' E.S L (cntOf d) (srtOf d) := fun W hW hc => by
        rw [← hdl]; exact bareCode_ok E.S g (a + 257) _ d W (by omega) hd15 (fun i hi => (hW.cell (p := ⟨g, a + 257 + i, none⟩) hg2).trans (hat2 i hi)) (by have := hW.size; omega) hc
      have C2n : ∀ W, Below w5.heap.size w5 W → codeB d = false → Calls Tryd.prog 61 #[.pointer (some ⟨E.S, 0, none⟩), .slice (some ⟨g, a + 257, none⟩) (b + 1) (cp - (a + 257))] W fun e w' => e = .panicked (errv 10) ∧ Below W.heap.size W w' := fun W hW hc => by
        rw [← hdl]; exact bareCode_none E.S g (a + 257) _ d W (by omega) hd15 (fun i hi => (hW.cell (p := ⟨g, a + 257 + i, none⟩) hg2).trans (hat2 i hi)) (by have := hW.size; omega) hc
      have HC2 := (show Hid _ from C2)
      have HC2n := (show Hid _ from C2n)
      have HC1 := (show Hid _ from C1)
      have HC1n := (show Hid _ from C1n)
      have HB5 : Hid (Below w5.heap.size w5 w5.drew) := (Below.refl _ _).drew
      clear C1 C1n C2 C2n hcell hr15
      cases hcl : codeB l with
      | false =>
        rw [if_pos hcl] at E0
        subst E0
        go_wp2
        go_region_with (first | (go_at_call 61; refine (HC1n.out _ HB5.out hcl).mono ?_; rintro e w6 ⟨rfl, hb6⟩; refine way_out ⟨rfl, HK5.out.trans ((Kept.refl _ _ _).drew.trans (Kept.of_below hb6)), rfl⟩ ?_))
        all_goals exact trivial
      | true =>
        rw [if_neg (by rw [hcl]; simp)] at E0
        cases hcd : codeB d with
        | false =>
          rw [if_pos hcd] at E0
          subst E0
          go_wp2
          go_region_with (first | (go_at_call 61; refine (HC1.out _ HB5.out hcl).mono ?_; rintro e w6 ⟨L6, rfl, hb6, hL6⟩; have HB6 : Hid (Below w5.heap.size w5 w6) := HB5.out.trans ⟨hb6.os, hb6.tape, hb6.output, hb6.size, hb6.block⟩; have HL6 : Hid (New w5 w6 E.S L6 (cntOf l) (srtOf l)) := hL6.mono (Nat.le_refl _); clear HC1 hb6 hL6) | (go_at_call 61; refine (HC2n.out _ HB6.out hcd).mono ?_; rintro e w7 ⟨rfl, hb7⟩; refine way_out ⟨rfl, HK5.out.trans ((Kept.of_below HB6.out).trans (Kept.of_below hb7)), rfl⟩ ?_))
          all_goals exact trivial
        | true =>
          rw [if_neg (by rw [hcd]; simp)] at E0
          subst E0
          go_wp2
          go_region_with (first | (go_at_call 61; refine (HC1.out _ HB5.out hcl).mono ?_; rintro e w6 ⟨L6, rfl, hb6, hL6⟩; have HB6 : Hid (Below w5.heap.size w5 w6) := HB5.out.trans ⟨hb6.os, hb6.tape, hb6.output, hb6.size, hb6.block⟩; have HL6 : Hid (New w5 w6 E.S L6 (cntOf l) (srtOf l)) := hL6.mono (Nat.le_refl _); clear HC1 hb6 hL6) | (go_at_call 61; refine (HC2.out _ HB6.out hcd).mono ?_; rintro e w7 ⟨L7, rfl, hb7, hL7⟩; have HF : Hid (Kept E.S (.bool true) (.bool true) w w7 ∧ Rd w7 E q v ∧ New w w7 E.S L6 (cntOf l) (srtOf l) ∧ New w w7 E.S L7 (cntOf d) (srtOf d)) := ⟨HK5.out.trans ((Kept.of_below HB6.out).trans (Kept.of_below hb7)), (HR5.out.below HB6.out).below hb7, ((HL6.out.mono HK5.out.size).later hb7 (by have := HK5.out.size; have := HB6.out.size; omega)), hL7.mono (by have := HK5.out.size; have := HB6.out.size; omega)⟩; clear hb7 hL7 HC2))
          all_goals
            go_wp2
            go_ret2
            first | exact ⟨HF.out.1, HF.out.2.1, by omega, by omega, L6, L7, rfl, HF.out.2.2.1, HF.out.2.2.2⟩ | exact ⟨HF.out.1, HF.out.2.1, by omega, by omega, by omega, by omega, L6, L7, rfl, HF.out.2.2.1, HF.out.2.2.2⟩
end Go.Proofs.YtbiibhpknflagaaDoor
