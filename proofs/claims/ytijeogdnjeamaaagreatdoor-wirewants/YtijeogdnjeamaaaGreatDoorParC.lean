/- 'Parse' of the document, walked. -/
import Derived.Test.YtijeogdnjeamaaaGreatDoorParB
namespace Go.Proofs.YtijeogdnjeamaaaGreatDoor.Hx
open Go.RowKit
set_option linter.unusedVariables false

set_option maxRecDepth 20000 in
set_option maxHeartbeats 1000000 in
theorem parse_ref (s : ByteArray) (w : World) (hl : s.size ≤ 300000) :
    Calls Tryz.prog 70 #[.string s] w fun e w' => Below w.heap.size w w' ∧ ((s.size = 40 ∧ good s → e = .returned (.tuple #[.agg (row (idAt s 40)).toArray, .bool true])) ∧ (¬ (s.size = 40 ∧ good s) → e = .returned (.tuple #[.agg (row zeros).toArray, .bool false]))) := by
  have hi2 : ∀ l : List Int, l.length = 20 → (Tryz.prog.info? 67).map (·.size) = some (row l).length := fun l h => by rw [row_len, h]; exact Tryz.info67
  by_cases h40 : s.size = 40
  · go_enter Tryz.func70, Tryz.ntmps70
    go_wp2
    go_loopg [5] 40 (fun k i wr => ∃ j : Nat, j ≤ 40 ∧ k = 40 - j ∧ i = .int .i64 j ∧ (∀ k, k < j → 0 ≤ hv (sgn s k)) ∧ Hid (wr.heap[w.heap.size + 1]? = some (.cells (row (idAt s j)).toArray 67 (0, 0))) ∧ Hid (wr.heap[w.heap.size]? = some (.cells (row zeros).toArray 67 (0, 0))) ∧ Hid (Below w.heap.size w wr))
    case atStart => exact ⟨0, by omega, rfl, rfl, fun k hk => by omega, heap_alloc2_new w _ _, heap_alloc2_old w _ _, ((Below.refl _ _).alloc (Nat.le_refl _) _).alloc (by simp) _⟩
    case round =>
      obtain ⟨j, hj, hk, rfl, hgd, H1, H0, HB⟩ := hrel
      by_cases hlt : j < 40
      · obtain ⟨c, HC⟩ : ∃ c, Hid (c = sgn s j) := ⟨_, rfl⟩
        have hix : ∀ w1 : World, (Instr.index 9 (.string s) (.int .i64 j)).run Tryz.prog w1 = .ok (.int .u8 c) w1 := fun w1 => by rw [HC.out]; exact index_sgn s j w1 (by omega)
        have hcb : 0 ≤ c ∧ c < 256 := by rw [HC.out]; exact sgn_bd s j
        obtain ⟨m, HM⟩ : ∃ m, Hid (m = j / 2) := ⟨_, rfl⟩
        have hm : j / 2 = m := HM.out.symm
        have hm2 : m < 20 := by omega
        obtain ⟨x, HX⟩ : ∃ x, Hid (x = (idAt s j).getD (j / 2) 0) := ⟨_, rfl⟩
        have hcell : wr.cell? ⟨w.heap.size + 1, j / 2, none⟩ = some (.int .u8 x) := by rw [HX.out]; exact row_cell H1.out (j / 2) (by rw [idAt_len]; omega)
        have hfz := frozen_of_row wr (w.heap.size + 1) (j / 2) _ 67 H1.out
        have hxb : 0 ≤ x ∧ x < 256 := idAt_bd s j x (by rw [HX.out, List.getD_eq_getElem?_getD, List.getElem?_eq_getElem (by rw [idAt_len]; omega)]; exact List.getElem_mem _)
        rw [hm] at hcell hfz
        by_cases hd : 48 ≤ c ∧ c ≤ 57
        · have hvc : hv c = c - 48 := by unfold hv; rw [if_pos hd]
          go_wp2
          go_roundg (40 - (j + 1))
          case measure => omega
          case rel =>
            refine ⟨j + 1, by omega, rfl, by go_num, ?_, ?_, ?_, HB.out.setCell (by simp) _⟩
            · intro k hk
              rcases Nat.lt_or_ge k j with h | h
              · exact hgd k h
              · obtain rfl : k = j := by omega
                rw [← HC.out, hvc]; omega
            · show _ = _
              rw [heap_setCell_same wr _ _ _ _ _ H1.out, idAt, ← HX.out, ← HC.out, hvc, hm, row_set, show x * 16 % 256 + (c - 48) = (x * 16 + (c - 48)) % 256 from by omega]
            · show _ = _
              rw [heap_setCell_other wr _ _ _ (by simp)]; exact H0.out
        · by_cases hd2 : 97 ≤ c ∧ c ≤ 102
          · have hvc : hv c = c - 87 := by unfold hv; rw [if_neg hd, if_pos hd2]
            have hd1 : ¬ c ≤ 57 := by omega
            go_wp2
            go_roundg (40 - (j + 1))
            case measure => omega
            case rel =>
              refine ⟨j + 1, by omega, rfl, by go_num, ?_, ?_, ?_, HB.out.setCell (by simp) _⟩
              · intro k hk
                rcases Nat.lt_or_ge k j with h | h
                · exact hgd k h
                · obtain rfl : k = j := by omega
                  rw [← HC.out, hvc]; omega
              · show _ = _
                rw [heap_setCell_same wr _ _ _ _ _ H1.out, idAt, ← HX.out, ← HC.out, hvc, hm, row_set, show x * 16 % 256 + (c - 97 + 10) = (x * 16 + (c - 87)) % 256 from by omega]
              · show _ = _
                rw [heap_setCell_other wr _ _ _ (by simp)]; exact H0.out
          · have hvc : hv c = -1 := by unfold hv; rw [if_neg hd, if_neg hd2]
            have fin : ∀ (tm : Array Value), tm.getD 2 undef = .pointer (some ⟨w.heap.size, 0, none⟩) → tm.getD 3 undef = .bool false → (results Tryz.f70 tm).run Tryz.prog (wr.setCells w.heap.size 0 (row zeros).toArray.toList) = .ok (.tuple #[.agg (row zeros).toArray, .bool false]) (wr.setCells w.heap.size 0 (row zeros).toArray.toList) := fun tm h2 h3 =>
              results_mid2 (t2 := 4) Tryz.results70 tm _ w.heap.size _ _ _ h2 h3 (World.rangeAt_setCells_same _ w.heap.size 0 _ (there_row H0.out rfl)) Tryz.underlying67 rfl (hi2 _ rfl)
            have bad : Hid (¬ good s) := fun h => absurd (h j hlt) (by rw [← HC.out, hvc]; omega)
            have HF : Hid (Below w.heap.size w (wr.setCells w.heap.size 0 (row zeros).toArray.toList)) := below_setCells (Nat.le_refl _) _ _ _ _ HB.out
            rcases (by omega : c < 48 ∨ (57 < c ∧ 48 ≤ c ∧ c < 97) ∨ (102 < c ∧ 97 ≤ c ∧ 57 < c ∧ 48 ≤ c)) with h1 | h1 | h1
            all_goals
              go_wp2_with (refine wpList_store_mid rfl 67 _ _ rfl w.heap.size 0 (row zeros).toArray rfl rfl (there_row H0.out rfl) (hi2 _ rfl) (all_oneCell_toArray (row_one _)) ?_)
              exact bodyPost_ret (v := .tuple #[.agg (row zeros).toArray, .bool false]) (fin _ rfl rfl) rfl ⟨HF.out, fun h => absurd h bad.out, fun _ => rfl⟩
      · obtain rfl : j = 40 := by omega
        go_wp2_with (first | refine wpList_load_mid rfl 67 _ rfl (w.heap.size + 1) 0 rfl (row (idAt s 40)) _ (range_row H1.out) Tryz.underlying67 rfl (hi2 _ (idAt_len s 40)) ?_ | refine wpList_store_mid rfl 67 _ _ rfl w.heap.size 0 (row (idAt s 40)).toArray rfl rfl ?t1 ?t2 ?t3 ?_)
        case t1 => rw [show (row (idAt s 40)).toArray.size = 20 from by rw [List.size_toArray, row_len, idAt_len]]; exact there_row H0.out rfl
        case t2 => rw [List.size_toArray]; exact hi2 _ (idAt_len s 40)
        case t3 => exact all_oneCell_toArray (row_one _)
        · refine bodyPost_ret (v := .tuple #[.agg (row (idAt s 40)).toArray, .bool true]) (results_mid2 (t2 := 4) Tryz.results70 _ _ w.heap.size _ _ _ rfl rfl (World.rangeAt_setCells_same wr w.heap.size 0 _ ?_) Tryz.underlying67 rfl (hi2 _ (idAt_len s 40))) rfl ⟨below_setCells (Nat.le_refl _) _ _ _ _ HB.out, fun _ => rfl, fun h => absurd ⟨h40, hgd⟩ h⟩
          rw [row_len, idAt_len]; exact there_row H0.out rfl
  · have hnq : (s.size : Int) ≠ 40 := by omega
    have H1 : Hid (((w.alloc (.cells (row zeros).toArray 67)).alloc (.cells (row zeros).toArray 67)).heap[w.heap.size + 1]? = some (.cells (row zeros).toArray 67 (0, 0))) := heap_alloc2_new w _ _
    have H0 : Hid (((w.alloc (.cells (row zeros).toArray 67)).alloc (.cells (row zeros).toArray 67)).heap[w.heap.size]? = some (.cells (row zeros).toArray 67 (0, 0))) := heap_alloc2_old w _ _
    have HB : Hid (Below w.heap.size w ((w.alloc (.cells (row zeros).toArray 67)).alloc (.cells (row zeros).toArray 67))) := ((Below.refl _ _).alloc (Nat.le_refl _) _).alloc (by simp) _
    go_enter Tryz.func70, Tryz.ntmps70
    go_wp2_with (first | refine wpList_load_mid rfl 67 _ rfl (w.heap.size + 1) 0 rfl (row zeros) _ (range_row H1.out) Tryz.underlying67 rfl (hi2 _ rfl) ?_ | refine wpList_store_mid rfl 67 _ _ rfl w.heap.size 0 (row zeros).toArray rfl rfl ?t1 ?t2 ?t3 ?_)
    case t1 => exact there_row H0.out rfl
    case t2 => exact hi2 _ rfl
    case t3 => exact all_oneCell_toArray (row_one _)
    · refine bodyPost_ret (v := .tuple #[.agg (row zeros).toArray, .bool false]) (results_mid2 (t2 := 4) Tryz.results70 _ _ w.heap.size _ _ _ rfl rfl (World.rangeAt_setCells_same _ w.heap.size 0 _ ?_) Tryz.underlying67 rfl (hi2 _ rfl)) rfl ⟨below_setCells (Nat.le_refl _) _ _ _ _ HB.out, fun h => absurd h.1 h40, fun _ => rfl⟩
      exact there_row H0.out rfl
end Go.Proofs.YtijeogdnjeamaaaGreatDoor.Hx
