/- 'inOrder': the symbols by their lengths, then by themselves. -/
import Derived.Test.YtbiibhpknflagaaDoorCodeA
namespace Go.Proofs.YtbiibhpknflagaaDoor
open Go.RowKit Plain
set_option linter.unusedVariables false

/-- Where each length's symbols begin, known up to n. -/
def plAt (cs : List Nat) (n : Nat) : List Nat := (List.range 17).map fun i => if i ≤ n then below cs i else 0
theorem plAt_len (cs : List Nat) (n : Nat) : (plAt cs n).length = 17 := by simp [plAt]
theorem plAt_get (cs : List Nat) (n i : Nat) (h : i < 17) : (plAt cs n).getD i 0 = if i ≤ n then below cs i else 0 := by simp [plAt, h]
theorem plAt_step (cs : List Nat) (n : Nat) (h1 : 1 ≤ n) (hn : n ≤ 15) : (plAt cs n).set (n + 1) (below cs n + cs.getD n 0) = plAt cs (n + 1) := by
  apply List.ext_getElem
  · simp [plAt]
  · intro i h2 h3
    rw [List.getElem_set]
    simp only [plAt_len] at h3
    split
    · rename_i e
      subst e
      simp [plAt, below_succ cs n h1]
    · rename_i e
      simp only [plAt, List.getElem_map, List.getElem_range]
      by_cases h : i ≤ n
      · rw [if_pos h, if_pos (by omega)]
      · rw [if_neg h, if_neg (by omega)]
/-- One symbol i of length n is laid down. -/
def lay (s : List Nat × List Nat) (n i : Nat) : List Nat × List Nat := if 0 < n then (s.1.set n (s.1.getD n 0 + 1), s.2.set (s.1.getD n 0) i) else s
/-- The first k symbols are laid down. -/
def layTo (lens : List Nat) : Nat → List Nat × List Nat
  | 0 => (plAt (cntOf lens) 16, List.replicate (below (cntOf lens) 16) 0)
  | k + 1 => lay (layTo lens k) (lens.getD k 0) k
def srtOf (lens : List Nat) : List Nat := (layTo lens lens.length).2
theorem lay_len1 (s : List Nat × List Nat) (n i : Nat) : (lay s n i).1.length = s.1.length := by unfold lay; split <;> simp
theorem lay_len2 (s : List Nat × List Nat) (n i : Nat) : (lay s n i).2.length = s.2.length := by unfold lay; split <;> simp
theorem layTo_len1 (lens : List Nat) : ∀ k, (layTo lens k).1.length = 17
  | 0 => by simp [layTo, plAt]
  | k + 1 => by rw [layTo, lay_len1, layTo_len1 lens k]
theorem layTo_len2 (lens : List Nat) : ∀ k, (layTo lens k).2.length = below (cntOf lens) 16
  | 0 => by simp [layTo]
  | k + 1 => by rw [layTo, lay_len2, layTo_len2 lens k]
theorem srtOf_len (lens : List Nat) : (srtOf lens).length = below (cntOf lens) 16 := layTo_len2 lens _
/-- Where the next symbol of length n goes. -/
theorem layTo_place (lens : List Nat) (n : Nat) (h1 : 1 ≤ n) (h2 : n ≤ 15) : ∀ k, k ≤ lens.length → (layTo lens k).1.getD n 0 = below (cntOf lens) n + (lens.take k).count n
  | 0, _ => by rw [layTo, plAt_get _ _ _ (by omega), if_pos (by omega)]; simp
  | k + 1, hk => by
    have ih := layTo_place lens n h1 h2 k (by omega)
    rw [layTo, take_snocN lens k (by omega), List.count_append]
    unfold lay
    by_cases h0 : 0 < lens.getD k 0
    · rw [if_pos h0]
      by_cases e : lens.getD k 0 = n
      · rw [e, List.getD_eq_getElem?_getD, List.getElem?_set_self (by rw [layTo_len1]; omega), ih]; simp; omega
      · rw [List.getD_eq_getElem?_getD, List.getElem?_set_ne e, ← List.getD_eq_getElem?_getD, ih, List.count_eq_zero_of_not_mem (l := [lens.getD k 0]) (by simpa using Ne.symm e)]; rfl
    · rw [if_neg h0, ih, List.count_eq_zero_of_not_mem (l := [lens.getD k 0]) (by simp only [List.mem_singleton]; omega)]; rfl
theorem layTo_room (lens : List Nat) (k : Nat) (hk : k < lens.length) (h0 : 0 < lens.getD k 0) (h15 : lens.getD k 0 ≤ 15) : (layTo lens k).1.getD (lens.getD k 0) 0 < below (cntOf lens) 16 := by
  rw [layTo_place lens _ h0 h15 k (by omega)]
  have h1 : (lens.take k).count (lens.getD k 0) + 1 ≤ lens.count (lens.getD k 0) := by
    have : (lens.take (k + 1)).count (lens.getD k 0) ≤ lens.count (lens.getD k 0) := List.Sublist.count_le _ (List.take_sublist _ _)
    rw [take_snocN lens k hk, List.count_append] at this
    simpa using this
  have h2 := below_mono (cntOf lens) (lens.getD k 0 + 1) 16 (by omega)
  rw [below_succ _ _ h0, cntOf_count lens _ h0 (by omega)] at h2
  omega
theorem below_le_len (lens : List Nat) : below (cntOf lens) 16 ≤ 15 * lens.length := by
  have : ∀ n, n ≤ 15 → below (cntOf lens) (n + 1) ≤ n * lens.length := by
    intro n
    induction n with
    | zero => intro _; simp [below]
    | succ n ih =>
      intro h
      rw [below_succ _ _ (by omega), Nat.succ_mul]
      have := ih (by omega)
      have := cntOf_le lens (n + 1)
      omega
  exact this 15 (by omega)
/-- The symbols that have bits are no more than all. -/
theorem below_le (lens : List Nat) : ∀ n, n ≤ 15 → below (cntOf lens) (n + 1) ≤ (lens.filter fun x => decide (1 ≤ x) && decide (x ≤ n)).length
  | 0, _ => by simp [below]
  | n + 1, h => by
    rw [below_succ _ _ (by omega), cntOf_count lens _ (by omega) (by omega)]
    have ih := below_le lens n (by omega)
    have e : ∀ l : List Nat, (l.filter fun x => decide (1 ≤ x) && decide (x ≤ n + 1)).length = (l.filter fun x => decide (1 ≤ x) && decide (x ≤ n)).length + l.count (n + 1) := by
      intro l
      induction l with
      | nil => simp
      | cons x l ih =>
        rw [List.filter_cons, List.filter_cons, List.count_cons]
        by_cases h1 : x = n + 1
        · subst h1; simp [show ¬ n + 1 ≤ n by omega]; omega
        · by_cases h2 : 1 ≤ x ∧ x ≤ n
          · simp [h2.1, h2.2, show x ≤ n + 1 by omega, h1]; omega
          · rw [show (decide (1 ≤ x) && decide (x ≤ n + 1)) = false from by simp; omega, show (decide (1 ≤ x) && decide (x ≤ n)) = false from by simp; omega]; simp [h1]; omega
    rw [e]; omega
theorem below_le_length (lens : List Nat) : below (cntOf lens) 16 ≤ lens.length := Nat.le_trans (below_le lens 15 (by omega)) (List.length_filter_le _ _)

theorem Tryd.info3 : (Tryd.prog.info? 3).map (fun i => (i.zero, i.size, i.bytes)) = some (some (.int .i64 0), 1, 8) := by kernel_rfl
theorem arr_zero17 : (arr (plAt [] 0)).toArray = #[.int .i64 0, .int .i64 0, .int .i64 0, .int .i64 0, .int .i64 0, .int .i64 0, .int .i64 0, .int .i64 0, .int .i64 0, .int .i64 0, .int .i64 0, .int .i64 0, .int .i64 0, .int .i64 0, .int .i64 0, .int .i64 0, .int .i64 0] := rfl
theorem plAt_one (cs : List Nat) : plAt cs 1 = plAt [] 0 := by simp [plAt, below, List.range_succ]

set_option maxRecDepth 20000 in
set_option maxHeartbeats 2000000 in
theorem inOrder_any (b off cap : Nat) (lens : List Nat) (w : World) (hl : lens.length ≤ 400) (h15 : ∀ x ∈ lens, x ≤ 15) (hat : AtI w b off lens) (hb : b < w.heap.size) :
    Calls Tryd.prog 75 #[.agg (arr (cntOf lens)).toArray, .slice (some ⟨b, off, none⟩) lens.length cap] w fun e w' => ∃ g, w.heap.size ≤ g ∧ e = .returned (.slice (some ⟨g, 0, none⟩) (srtOf lens).length (srtOf lens).length) ∧ Below w.heap.size w w' ∧ w'.heap[g]? = some (.cells (arr (srtOf lens)).toArray 3 (0, 0)) := by
  obtain ⟨cs, hcs⟩ : ∃ cs, cntOf lens = cs := ⟨_, rfl⟩
  have hcl : cs.length = 16 := by rw [← hcs]; exact cntOf_len lens
  have hcb : ∀ i, cs.getD i 0 ≤ 400 := fun i => by rw [← hcs]; have := cntOf_le lens i; omega
  have hbl := below_le_length lens
  rw [hcs] at hbl ⊢
  have Hcs : Hid (cntOf lens = cs) := hcs
  clear hcs
  obtain ⟨i3, hi, hz0, hz1, hz2⟩ := info_parts Tryd.info3
  go_enter Tryd.func75, Tryd.ntmps75
  go_wp2
  go_loopw [6] (fun i wr => ∃ n : Nat, 1 ≤ n ∧ n ≤ 16 ∧ i = .int .i64 n ∧ Hid (wr.heap[w.heap.size]? = some (.cells (arr cs).toArray 117 (0, 0))) ∧ Hid (wr.heap[w.heap.size + 1]? = some (.cells (arr (plAt cs n)).toArray 127 (0, 0))) ∧ Hid (Below w.heap.size w wr)) (fun i _ => 16 - (intOf i).toNat)
  case atStart =>
    refine ⟨1, by omega, by omega, rfl, ?_, ?_, ?_⟩
    · exact heap_alloc2_old w _ _
    · rw [plAt_one]; exact heap_alloc2_new w _ _
    · exact ((Below.refl _ _).alloc (Nat.le_refl _) _).alloc (by simp) _
  case round =>
    obtain ⟨n, hn1, hn2, rfl, H0, H1, HB⟩ := hrel
    by_cases hn : n = 16
    · subst hn
      have k16 := row_cell H1.out 16 (by rw [plAt_len]; omega)
      rw [plAt_get _ _ _ (by omega), if_pos (by omega)] at k16
      obtain ⟨m, HM⟩ : ∃ m, Hid (m = below cs 16) := ⟨_, rfl⟩
      rw [← HM.out] at k16 hbl
      have HLT : Hid (w.heap.size + 1 < wr.heap.size) := by
        rcases Nat.lt_or_ge (w.heap.size + 1) wr.heap.size with h | h
        · exact h
        · have := H1.out; rw [Array.getElem?_eq_none h] at this; cases this
      go_wp2_with (at_make; refine wpList_make_full _ rfl _ _ 70 rfl wr.heap.size 3 i3 (.int .i64 0) 1 Tryd.underlying70 hi hz0 hz1 _ _ _ _ m rfl rfl ?c1 ?c2 ?c3 ?c4 ?c5 ?_)
      case c1 => omega
      case c2 => omega
      case c3 => rw [hz2]; omega
      case c4 => unfold maxLen; omega
      case c5 => exact Nat.le_refl _
      · intro w2 hown hgrow
        have HB2 : Hid (Below w.heap.size w w2) := HB.out.grown hgrow (by have := HLT.out; omega) (fun k h => by cases h)
        have H12 : Hid (w2.heap[w.heap.size + 1]? = some (.cells (arr (layTo lens 0).1).toArray 127 (0, 0))) := by
          show _ = _
          rw [layTo, Hcs.out]; exact (hgrow.block _ HLT.out (by simp)).trans H1.out
        have H22 : Hid (w2.heap[wr.heap.size]? = some (.cells (arr (layTo lens 0).2).toArray 3 (0, 0))) := by
          show _ = _
          obtain ⟨_, ⟨h, _⟩ | ⟨g, cap', cur, hv, _, hg, _, _, hsz, htk⟩⟩ := hown
          · cases h
          · simp only [Value.slice.injEq, Option.some.injEq, Addr.mk.injEq] at hv
            obtain ⟨⟨rfl, _, _⟩, _, rfl⟩ := hv
            rw [hg, layTo, Hcs.out, ← HM.out]
            have e : cur.toList = arr (List.replicate m 0) := by
              rw [List.take_of_length_le (by simp; omega)] at htk
              rw [htk, toList_madeCells_one]
              simp [arr]
            have : cur = (arr (List.replicate m 0)).toArray := by rw [← e]
            rw [this]
        clear hown hgrow
        obtain ⟨g, HGg⟩ : ∃ g, Hid (g = wr.heap.size) := ⟨_, rfl⟩
        rw [← HGg.out] at H22 HLT ⊢
        go_wp2
        go_loopw [29] (fun i wr => ∃ k : Nat, k ≤ lens.length ∧ i = .int .i64 k ∧ Hid (wr.heap[w.heap.size + 1]? = some (.cells (arr (layTo lens k).1).toArray 127 (0, 0))) ∧ Hid (wr.heap[g]? = some (.cells (arr (layTo lens k).2).toArray 3 (0, 0))) ∧ Hid (Below w.heap.size w wr)) (fun i _ => lens.length - (intOf i).toNat)
        case atStart => exact ⟨0, by omega, rfl, H12, H22, HB2⟩
        case round =>
          clear k16 H0 H1 HB H12 H22 HB2 HGg
          obtain ⟨k, hk, rfl, H1, H2, HB⟩ := hrel
          have hgne := HLT.out
          by_cases hlt : k < lens.length
          · have hcell : wr.cell? ⟨b, off + k, none⟩ = some (.int .i64 (lens.getD k 0 : Nat)) := (HB.out.cell (p := ⟨b, off + k, none⟩) hb).trans (hat k hlt)
            have hx15 : lens.getD k 0 ≤ 15 := by rw [List.getD_eq_getElem?_getD, List.getElem?_eq_getElem hlt]; exact h15 _ (List.getElem_mem hlt)
            obtain ⟨x, HX⟩ : ∃ x, Hid (x = lens.getD k 0) := ⟨_, rfl⟩
            by_cases h0 : 0 < lens.getD k 0
            · have hroom := layTo_room lens k hlt h0 hx15
              have HL : Hid (layTo lens (k + 1) = ((layTo lens k).1.set x ((layTo lens k).1.getD x 0 + 1), (layTo lens k).2.set ((layTo lens k).1.getD x 0) k)) := by
                show _ = _
                rw [layTo]; unfold lay; rw [if_pos h0, ← HX.out]
              rw [← HX.out] at hcell hx15 h0 hroom
              have k1 := row_cell H1.out x (by rw [layTo_len1]; omega)
              have f1 := frozen_of_row wr (w.heap.size + 1) x _ 127 H1.out
              obtain ⟨q, HQ⟩ : ∃ q, Hid (q = (layTo lens k).1.getD x 0) := ⟨_, rfl⟩
              rw [← HQ.out] at k1 hroom HL
              rw [Hcs.out, ← HM.out] at hroom
              have k2 := row_cell H2.out q (by rw [layTo_len2, Hcs.out, ← HM.out]; exact hroom)
              have f2 := frozen_of_row wr g q _ 3 H2.out
              obtain ⟨z, HZ⟩ : ∃ z, Hid (z = (layTo lens k).2.getD q 0) := ⟨_, rfl⟩
              rw [← HZ.out] at k2
              have hne : ¬ g = w.heap.size + 1 := by omega
              have hne2 : ¬ w.heap.size + 1 = g := by omega
              go_wp2
              go_roundw
              case rel =>
                refine ⟨k + 1, by omega, by go_num, ?_, ?_, (HB.out.setCell (by simp; omega) _).setCell (by simp) _⟩
                · show _ = _
                  rw [HL.out]
                  refine (heap_setCell_same _ _ _ _ _ _ ((heap_setCell_other wr _ _ _ (by simpa using hne2)).trans H1.out)).trans ?_
                  rw [← arr_set]; rfl
                · show _ = _
                  rw [HL.out]
                  refine (heap_setCell_other _ _ _ _ (by simpa using hne)).trans ((heap_setCell_same wr _ _ _ _ _ H2.out).trans ?_)
                  rw [← arr_set]
              case measure => simp [intOf]; omega
            · have HL : Hid (layTo lens (k + 1) = layTo lens k) := by
                show _ = _
                rw [layTo]; unfold lay; rw [if_neg h0]
              have hx0 : lens.getD k 0 = 0 := by omega
              rw [hx0] at hcell
              clear hx0 h0 hx15 HX
              go_wp2
              go_roundw
              case rel => exact ⟨k + 1, by omega, by go_num, by show _ = _; rw [HL.out]; exact H1.out, by show _ = _; rw [HL.out]; exact H2.out, HB⟩
              case measure => simp [intOf]; omega
          · obtain rfl : k = lens.length := by omega
            have e : m = (srtOf lens).length := by rw [srtOf_len, Hcs.out, HM.out]
            have HE : Hid (m = (srtOf lens).length) := e
            clear e
            go_wp2
            go_ret
            exact ⟨g, by omega, by rw [← HE.out]; rfl, HB.out, H2.out⟩
    · have hle' : (n : Int) ≤ 15 := by omega
      have k0 := row_cell H0.out n (by omega)
      have k1 := row_cell H1.out n (by rw [plAt_len]; omega)
      have k2 := row_cell H1.out (n + 1) (by rw [plAt_len]; omega)
      have f2 := frozen_of_row wr (w.heap.size + 1) (n + 1) _ 127 H1.out
      rw [plAt_get _ _ _ (by omega), if_pos (by omega)] at k1
      have hbn := hcb n
      have hbb : below cs n ≤ 400 := by have := below_mono cs n 16 (by omega); omega
      obtain ⟨c, HC⟩ : ∃ c, Hid (c = cs.getD n 0) := ⟨_, rfl⟩
      obtain ⟨q, HQ⟩ : ∃ q, Hid (q = below cs n) := ⟨_, rfl⟩
      obtain ⟨z, HZ⟩ : ∃ z, Hid (z = (plAt cs n).getD (n + 1) 0) := ⟨_, rfl⟩
      rw [← HC.out] at k0 hbn
      rw [← HQ.out] at k1 hbb
      rw [← HZ.out] at k2
      go_wp2
      go_region
      all_goals
        go_wp2
        go_roundw
        case rel =>
          refine ⟨n + 1, by omega, by omega, by go_num, ?_, ?_, ?_⟩
          · show _ = _
            exact (heap_setCell_other wr.drew _ _ _ (by simp)).trans H0.out
          · show _ = _
            refine (heap_setCell_same wr.drew _ _ _ _ _ H1.out).trans ?_
            rw [← plAt_step cs n hn1 (by omega), ← HC.out, ← HQ.out, ← arr_set]; rfl
          · exact (HB.out.drew).setCell (by simp) _
        case measure => simp [intOf]; omega
end Go.Proofs.YtbiibhpknflagaaDoor
