/- 'fixedCode', 'fixedCodes'. -/
import Derived.Test.YtbiibhpknflagaaDoorCodeE
namespace Go.Proofs.YtbiibhpknflagaaDoor
open Go.RowKit Plain
set_option linter.unusedVariables false

/-- The bits of a symbol in a block of kind 1, as a number; how many they are. -/
def fixVal (s : Nat) : Nat := if s < 144 then 48 + s else if s < 256 then 400 + s - 144 else if s < 280 then s - 256 else 192 + s - 280
def fixLen (s : Nat) : Nat := if s < 144 then 8 else if s < 256 then 9 else if s < 280 then 7 else 8

set_option maxHeartbeats 400000 in
theorem fixedCode_any (s : Nat) (w : World) (h : s < 288) :
    Calls Tryd.prog 56 #[.int .i64 s] w fun e w' => e = .returned (.tuple #[.int .i64 (fixVal s : Nat), .int .i64 (fixLen s : Nat)]) ∧ w = w' := by
  have H1 : Hid (fixVal s = if s < 144 then 48 + s else if s < 256 then 400 + s - 144 else if s < 280 then s - 256 else 192 + s - 280) := rfl
  have H2 : Hid (fixLen s = if s < 144 then 8 else if s < 256 then 9 else if s < 280 then 7 else 8) := rfl
  by_cases h1 : s < 144
  · have h1' : (s : Int) < 144 := by omega
    go_enter Tryd.func56, Tryd.ntmps56
    go_wp2
    go_ret2
    exact ⟨by rw [H1.out, H2.out, if_pos h1, if_pos h1]; simp, rfl⟩
  · have h1' : ¬ (s : Int) < 144 := by omega
    by_cases h2 : s < 256
    · have h2' : (s : Int) < 256 := by omega
      go_enter Tryd.func56, Tryd.ntmps56
      go_wp2
      go_ret2
      exact ⟨by rw [H1.out, H2.out, if_neg h1, if_neg h1, if_pos h2, if_pos h2]; simp; omega, rfl⟩
    · have h2' : ¬ (s : Int) < 256 := by omega
      by_cases h3 : s < 280
      · have h3' : (s : Int) < 280 := by omega
        go_enter Tryd.func56, Tryd.ntmps56
        go_wp2
        go_ret2
        exact ⟨by rw [H1.out, H2.out, if_neg h1, if_neg h1, if_neg h2, if_neg h2, if_pos h3, if_pos h3]; simp; omega, rfl⟩
      · have h3' : ¬ (s : Int) < 280 := by omega
        go_enter Tryd.func56, Tryd.ntmps56
        go_wp2
        go_ret2
        exact ⟨by rw [H1.out, H2.out, if_neg h1, if_neg h1, if_neg h2, if_neg h2, if_neg h3, if_neg h3]; simp; omega, rfl⟩

/-- A code stays where it lies, while nothing old is touched. -/
theorem New.later {w w' w'' : World} {S : Nat} {L : Loc} {cnt srt : List Nat} (h : New w w' S L cnt srt) (hb : Below w'.heap.size w' w'') (h0 : w.heap.size ≤ w'.heap.size) : New w w'' S L cnt srt where
  s := (hb.cell (p := ⟨L.bs, 0, none⟩) h.l1.2).trans h.s
  c i hi := (hb.cell (p := ⟨L.bc, i, none⟩) h.l2.2).trans (h.c i hi)
  d := (hb.cell (p := ⟨L.bd, 0, none⟩) h.l3.2).trans h.d
  r i hi := (hb.cell (p := ⟨L.br, i, none⟩) h.l4.2).trans (h.r i hi)
  l1 := ⟨h.l1.1, by have := h.l1.2; have := hb.size; omega⟩
  l2 := ⟨h.l2.1, by have := h.l2.2; have := hb.size; omega⟩
  l3 := ⟨h.l3.1, by have := h.l3.2; have := hb.size; omega⟩
  l4 := ⟨h.l4.1, by have := h.l4.2; have := hb.size; omega⟩

def fixLens : List Nat := (List.range 288).map fixLen
def fixDist : List Nat := List.replicate 32 5
/-- The first k lengths are laid. -/
def fixTo (k : Nat) : List Nat := (List.range 288).map fun i => if i < k then fixLen i else 0
theorem fixTo_len (k : Nat) : (fixTo k).length = 288 := by simp [fixTo]
theorem fixTo_zero : fixTo 0 = List.replicate 288 0 := by
  apply List.ext_getElem
  · rw [fixTo_len, List.length_replicate]
  · intro i h1 h2
    simp only [fixTo, List.getElem_map, List.getElem_range, List.getElem_replicate]
    rw [if_neg (by omega)]
theorem made_row {w2 : World} {B g n : Nat} (h : w2.ownsRow B 3 1 (.slice (some ⟨g, 0, none⟩) n n) n (madeCells #[.int .i64 0] n).toList) : w2.heap[g]? = some (.cells (arr (List.replicate n 0)).toArray 3 (0, 0)) := by
  obtain ⟨_, ⟨h, _⟩ | ⟨g', cap', cur, hv, _, hg, _, _, hsz, htk⟩⟩ := h
  · cases h
  · simp only [Value.slice.injEq, Option.some.injEq, Addr.mk.injEq] at hv
    obtain ⟨⟨rfl, _, _⟩, _, rfl⟩ := hv
    rw [hg]
    have e : cur.toList = arr (List.replicate n 0) := by
      rw [List.take_of_length_le (by simp; omega)] at htk
      rw [htk, toList_madeCells_one]
      simp [arr]
    have : cur = (arr (List.replicate n 0)).toArray := by rw [← e]
    rw [this]
theorem fixTo_step (k : Nat) : (fixTo k).set k (fixLen k) = fixTo (k + 1) := by
  apply List.ext_getElem
  · simp [fixTo]
  · intro i h1 h2
    rw [List.getElem_set]
    simp only [fixTo, List.getElem_map, List.getElem_range]
    by_cases e : k = i
    · subst e; simp
    · rw [if_neg e]
      by_cases h : i < k
      · rw [if_pos h, if_pos (by omega)]
      · rw [if_neg h, if_neg (by omega)]
theorem fixTo_all : fixTo 288 = fixLens := by
  apply List.ext_getElem
  · simp [fixTo, fixLens]
  · intro i h1 h2
    simp only [fixTo_len] at h1
    simp [fixTo, fixLens, h1]
theorem fix_whole : wholeB (cntOf fixLens) = true := by decide +kernel
theorem fixD_whole : wholeB (cntOf fixDist) = true := by decide +kernel
theorem fix_15 : ∀ x ∈ fixLens, x ≤ 15 := by decide +kernel
theorem fixD_15 : ∀ x ∈ fixDist, x ≤ 15 := by decide +kernel

set_option maxRecDepth 20000 in
set_option maxHeartbeats 2000000 in
theorem fixedCodes_any (S : Nat) (w : World) :
    Calls Tryd.prog 31 #[.pointer (some ⟨S, 0, none⟩)] w fun e w' => ∃ L M, e = .returned (.tuple #[codeV L, codeV M]) ∧ Below w.heap.size w w' ∧ New w w' S L (cntOf fixLens) (srtOf fixLens) ∧ New w w' S M (cntOf fixDist) (srtOf fixDist) := by
  obtain ⟨i3, hi, hz0, hz1, hz2⟩ := info_parts Tryd.info3
  go_enter Tryd.func31, Tryd.ntmps31
  go_wp2_with (at_make; refine wpList_make_full _ rfl _ _ 70 rfl w.heap.size 3 i3 (.int .i64 0) 1 Tryd.underlying70 hi hz0 hz1 _ _ _ _ 288 rfl rfl ?c1 ?c2 ?c3 ?c4 ?c5 ?_)
  case c1 => rfl
  case c2 => rfl
  case c3 => rw [hz2]; omega
  case c4 => unfold maxLen; omega
  case c5 => exact Nat.le_refl _
  · intro w2 hown hgrow
    have HB2 : Hid (Below w.heap.size w w2) := (Below.refl _ _).grown hgrow (Nat.le_refl _) (fun k h => by cases h)
    have HH : Hid (w2.heap[w.heap.size]? = some (.cells (arr (fixTo 0)).toArray 3 (0, 0))) := by rw [fixTo_zero]; exact made_row hown
    clear hown hgrow
    go_wp2
    go_loopw [9] (fun i wr => ∃ k : Nat, k ≤ 288 ∧ i = .int .i64 k ∧ Hid (wr.heap[w.heap.size]? = some (.cells (arr (fixTo k)).toArray 3 (0, 0))) ∧ Hid (Below w.heap.size w wr)) (fun i _ => 288 - (intOf i).toNat)
    case atStart => exact ⟨0, by omega, rfl, HH, HB2⟩
    case round =>
      obtain ⟨k, hk, rfl, H, HB⟩ := hrel
      clear HH HB2
      by_cases hlt : k < 288
      · have hltZ : (k : Int) < 288 := by omega
        have hc := row_cell H.out k (by rw [fixTo_len]; exact hlt)
        have hf := frozen_of_row wr w.heap.size k _ 3 H.out
        obtain ⟨z, HZ⟩ : ∃ z, Hid (z = (fixTo k).getD k 0) := ⟨_, rfl⟩
        rw [← HZ.out] at hc
        go_wp2_with (go_at_call 56; refine (fixedCode_any k _ hlt).mono ?_; rintro e w' ⟨rfl, rfl⟩)
        go_roundw
        case rel => exact ⟨k + 1, by omega, by go_num, by show _ = _; rw [heap_setCell_same wr _ _ _ _ _ H.out, ← fixTo_step, ← arr_set], HB.out.setCell (Nat.le_refl _) _⟩
        case measure => simp [intOf]; omega
      · obtain rfl : k = 288 := by omega
        rw [fixTo_all] at H
        have hlen : fixLens.length = 288 := by simp [fixLens]
        have hat : AtI wr w.heap.size 0 fixLens := fun i hi => by rw [Nat.zero_add]; exact row_cell H.out i hi
        have HLT : Hid (w.heap.size < wr.heap.size) := by
          rcases Nat.lt_or_ge w.heap.size wr.heap.size with h | h
          · exact h
          · have := H.out; rw [Array.getElem?_eq_none h] at this; cases this
        go_wp2_with fail
        rw [← hlen]
        refine (wholeCode_ok S w.heap.size 0 288 fixLens wr (by omega) fix_15 hat HLT.out fix_whole).mono ?_
        rintro e w3 ⟨L, rfl, hb3, hL⟩
        go_wp2_with fail
        refine (repeat1_any w3.heap.size 32 5 (w3.alloc (.cells #[.int .i64 5] 3)) (by omega) (by omega) (by simp) (by simp)).mono ?_
        rintro e w4 ⟨g, hg0, rfl, hb4, hg4⟩
        have hat4 : AtI w4 g 0 fixDist := fun i hi => by rw [Nat.zero_add]; exact row_cell hg4 i hi
        have hl4 : g < w4.heap.size := by
          rcases Nat.lt_or_ge g w4.heap.size with h | h
          · exact h
          · rw [Array.getElem?_eq_none h] at hg4; cases hg4
        have hb34 : Below w3.heap.size w3 w4 := ((Below.refl _ _).alloc (Nat.le_refl _) _).trans (hb4.mono (by simp))
        have hlD : fixDist.length = 32 := rfl
        go_wp2_with fail
        rw [← hlD]
        refine (wholeCode_ok S g 0 32 fixDist w4 (by omega) fixD_15 hat4 hl4 fixD_whole).mono ?_
        rintro e w5 ⟨M, rfl, hb5, hM⟩
        have HF : Hid (Below w.heap.size w w5 ∧ New w w5 S L (cntOf fixLens) (srtOf fixLens) ∧ New w w5 S M (cntOf fixDist) (srtOf fixDist)) := by
          have s1 := HB.out.size
          have s2 := hb3.size
          have s3 := hb34.size
          refine ⟨((HB.out.trans (hb3.mono s1)).trans (hb34.mono (by omega))).trans (hb5.mono (by omega)), (hL.mono s1).later (hb34.trans (hb5.mono s3)) (by have := HB.out.size; omega), hM.mono (by omega)⟩
        clear hb3 hb4 hb5 hL hM hat4 hg4 hb34
        go_wp2
        go_ret2
        exact ⟨L, M, rfl, HF.out.1, HF.out.2.1, HF.out.2.2⟩
end Go.Proofs.YtbiibhpknflagaaDoor
