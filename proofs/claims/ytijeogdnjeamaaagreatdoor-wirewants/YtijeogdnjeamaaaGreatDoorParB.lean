/- 'Parse', walked. -/
import Derived.Test.YtijeogdnjeamaaaGreatDoorParA
namespace Go.Proofs.YtijeogdnjeamaaaGreatDoor.Hx
open Go.RowKit
set_option linter.unusedVariables false

theorem hv_neg (c : Int) (h : ¬ 0 ≤ hv c) : hv c = -1 := by
  unfold hv at h ⊢
  by_cases a : 48 ≤ c ∧ c ≤ 57
  · rw [if_pos a] at h; omega
  · rw [if_neg a] at h ⊢
    by_cases b : 97 ≤ c ∧ c ≤ 102
    · rw [if_pos b] at h; omega
    · rw [if_neg b]
theorem zeros_arr : (row zeros).toArray = #[.int .u8 0, .int .u8 0, .int .u8 0, .int .u8 0, .int .u8 0, .int .u8 0, .int .u8 0, .int .u8 0, .int .u8 0, .int .u8 0, .int .u8 0, .int .u8 0, .int .u8 0, .int .u8 0, .int .u8 0, .int .u8 0, .int .u8 0, .int .u8 0, .int .u8 0, .int .u8 0] := rfl
theorem index_sgn (s : ByteArray) (j : Nat) (w : World) (h : j < s.size) : (Instr.index 9 (.string s) (.int .i64 j)).run Tryz.prog w = .ok (.int .u8 (sgn s j)) w := by
  rw [run_index_string (P := Tryz.prog) w 9 s .i64 j Tryz.underlying9, dif_pos ⟨by omega, by omega⟩]
  unfold sgn
  have hj : j < s.data.toList.length := by simpa using h
  simp only [Int.toNat_natCast, List.getD_eq_getElem?_getD, List.getElem?_eq_getElem hj, Option.getD_some]
  rfl
theorem below_setCells {B g : Nat} (hB : B ≤ g) : ∀ (vs : List Value) (o : Nat) (w0 w : World), Below B w0 w → Below B w0 (w.setCells g o vs)
  | [], _, _, _, h => h
  | v :: r, o, w0, _, h => below_setCells hB r (o + 1) w0 _ (h.setCell (p := ⟨g, o, none⟩) hB v)
theorem shl_or (a n : Int) (ha : 0 ≤ a ∧ a < 256) (hn : 0 ≤ n ∧ n < 16) : bits .or .u8 (a * 16 % 256) n = (a * 16 + n) % 256 := by
  obtain ⟨x, rfl⟩ := Int.eq_ofNat_of_zero_le ha.1
  obtain ⟨y, rfl⟩ := Int.eq_ofNat_of_zero_le hn.1
  have : ∀ y : Nat, y < 16 → ∀ x : Nat, x < 256 → bits .or .u8 ((x : Int) * 16 % 256) (y : Int) = ((x : Int) * 16 + y) % 256 := by decide +kernel
  exact this y (by omega) x (by omega)

set_option maxRecDepth 20000 in
set_option maxHeartbeats 1000000 in
theorem parse_prog (s : ByteArray) (w : World) (hl : s.size ≤ 300000) :
    Calls Tryz.prog 123 #[.string s] w fun e w' => Below w.heap.size w w' ∧ ((s.size = 40 ∧ good s → e = .returned (.tuple #[.agg (row (idAt s 40)).toArray, .nilIface])) ∧ (¬ (s.size = 40 ∧ good s) → e = .returned (.tuple #[.agg (row zeros).toArray, .iface 37 (.int .i64 12)]))) := by
  have hi2 : ∀ l : List Int, l.length = 20 → (Tryz.prog.info? 68).map (·.size) = some (row l).length := fun l h => by rw [row_len, h]; exact Tryz.info68
  obtain ⟨zr, HZ⟩ : ∃ zr, Hid (zr = row zeros) := ⟨_, rfl⟩
  by_cases h40 : s.size = 40
  · go_enter Tryz.func123, Tryz.ntmps123
    go_wp2
    go_loopg [14] 40 (fun k i wr => ∃ j : Nat, j ≤ 40 ∧ k = 40 - j ∧ i = .int .i64 j ∧ (∀ k, k < j → 0 ≤ hv (sgn s k)) ∧ Hid (wr.heap[w.heap.size + 1]? = some (.cells (row (idAt s j)).toArray 68 (0, 0))) ∧ Hid (wr.heap[w.heap.size]? = some (.cells (row zeros).toArray 68 (0, 0))) ∧ Hid (Below w.heap.size w wr))
    case atStart => exact ⟨0, by omega, rfl, rfl, fun k hk => by omega, heap_alloc2_new w _ _, heap_alloc2_old w _ _, ((Below.refl _ _).alloc (Nat.le_refl _) _).alloc (by simp) _⟩
    case round =>
      obtain ⟨j, hj, hk, rfl, hgd, H1, H0, HB⟩ := hrel
      by_cases hlt : j < 40
      · obtain ⟨c, HC⟩ : ∃ c, Hid (c = sgn s j) := ⟨_, rfl⟩
        have hix : ∀ w1 : World, (Instr.index 9 (.string s) (.int .i64 j)).run Tryz.prog w1 = .ok (.int .u8 c) w1 := fun w1 => by rw [HC.out]; exact index_sgn s j w1 (by omega)
        have hcb : 0 ≤ c ∧ c < 256 := by rw [HC.out]; exact sgn_bd s j
        by_cases hn : 0 ≤ hv c
        · obtain ⟨n, HN⟩ : ∃ n, Hid (n = hv c) := ⟨_, rfl⟩
          have hnb : 0 ≤ n ∧ n < 16 := by rw [HN.out]; refine ⟨hn, ?_⟩; unfold hv; split; omega; split <;> omega
          obtain ⟨x, HX⟩ : ∃ x, Hid (x = (idAt s j).getD (j / 2) 0) := ⟨_, rfl⟩
          have hcell : wr.cell? ⟨w.heap.size + 1, j / 2, none⟩ = some (.int .u8 x) := by rw [HX.out]; exact row_cell H1.out (j / 2) (by rw [idAt_len]; omega)
          have hfz := frozen_of_row wr (w.heap.size + 1) (j / 2) _ 68 H1.out
          have hxb : 0 ≤ x ∧ x < 256 := idAt_bd s j x (by rw [HX.out, List.getD_eq_getElem?_getD, List.getElem?_eq_getElem (by rw [idAt_len]; omega)]; exact List.getElem_mem _)
          obtain ⟨y, HY⟩ : ∃ y, Hid (y = (x * 16 + n) % 256) := ⟨_, rfl⟩
          have hor := shl_or x n hxb hnb
          rw [← HY.out] at hor
          have hwn : IntKind.u8.wrap n = n := wrap_u8 n hnb.1 (by omega)
          obtain ⟨m, HM⟩ : ∃ m, Hid (m = j / 2) := ⟨_, rfl⟩
          have hm : j / 2 = m := HM.out.symm
          have hm2 : m < 20 := by omega
          rw [hm] at hcell hfz
          go_wp2_with (go_at_call 131; refine (indexByte_any c _ hcb.1 hcb.2).mono ?_; rintro e w1 ⟨rfl, rfl⟩; rw [← HN.out])
          go_roundg (40 - (j + 1))
          case measure => omega
          case rel =>
            refine ⟨j + 1, by omega, rfl, by go_num, ?_, ?_, ?_, HB.out.setCell (by simp) _⟩
            · intro k hk
              rcases Nat.lt_or_ge k j with h | h
              · exact hgd k h
              · obtain rfl : k = j := by omega
                rw [← HC.out]; exact hn
            · show _ = _
              rw [heap_setCell_same w1 _ _ _ _ _ H1.out, idAt, ← row_set, ← HX.out, ← HC.out, ← HN.out, ← HY.out, hm, ← hor]
            · show _ = _
              rw [heap_setCell_other w1 _ _ _ (by simp)]; exact H0.out
        · have hneg : hv c = -1 := hv_neg c hn
          go_wp2_with (first | (go_at_call 131; refine (indexByte_any c _ hcb.1 hcb.2).mono ?_; rintro e w1 ⟨rfl, rfl⟩; rw [hneg]) | refine wpList_store_mid rfl 68 _ _ rfl w.heap.size 0 (row zeros).toArray rfl rfl ?t1 ?t2 ?t3 ?_)
          case t1 => exact there_row H0.out rfl
          case t2 => exact hi2 _ rfl
          case t3 => exact all_oneCell_toArray (row_one _)
          · refine bodyPost_ret (v := .tuple #[.agg (row zeros).toArray, .iface 37 (.int .i64 12)]) (results_mid2 (t2 := 27) Tryz.results123 _ _ w.heap.size _ _ _ rfl rfl (World.rangeAt_setCells_same _ w.heap.size 0 _ ?_) Tryz.underlying68 rfl (hi2 _ rfl)) rfl ⟨below_setCells (Nat.le_refl _) _ _ _ _ HB.out, fun h => absurd (h.2 j hlt) (by rw [← HC.out, hneg]; omega), fun _ => rfl⟩
            exact there_row H0.out rfl
      · obtain rfl : j = 40 := by omega
        go_wp2_with (first | refine wpList_load_mid rfl 68 _ rfl (w.heap.size + 1) 0 rfl (row (idAt s 40)) _ (range_row H1.out) Tryz.underlying68 rfl (hi2 _ (idAt_len s 40)) ?_ | refine wpList_store_mid rfl 68 _ _ rfl w.heap.size 0 (row (idAt s 40)).toArray rfl rfl ?t1 ?t2 ?t3 ?_)
        case t1 => rw [show (row (idAt s 40)).toArray.size = 20 from by rw [List.size_toArray, row_len, idAt_len]]; exact there_row H0.out rfl
        case t2 => rw [List.size_toArray]; exact hi2 _ (idAt_len s 40)
        case t3 => exact all_oneCell_toArray (row_one _)
        · refine bodyPost_ret (v := .tuple #[.agg (row (idAt s 40)).toArray, .nilIface]) (results_mid2 (t2 := 27) Tryz.results123 _ _ w.heap.size _ _ _ rfl rfl (World.rangeAt_setCells_same wr w.heap.size 0 _ ?_) Tryz.underlying68 rfl (hi2 _ (idAt_len s 40))) rfl ⟨below_setCells (Nat.le_refl _) _ _ _ _ HB.out, fun _ => rfl, fun h => absurd ⟨h40, hgd⟩ h⟩
          rw [row_len, idAt_len]; exact there_row H0.out rfl
  · have hnq : (s.size : Int) ≠ 40 := by omega
    have H0 : Hid ((w.alloc (.cells (row zeros).toArray 68)).heap[w.heap.size]? = some (.cells (row zeros).toArray 68 (0, 0))) := heap_alloc_new w _
    have HB : Hid (Below w.heap.size w (w.alloc (.cells (row zeros).toArray 68))) := (Below.refl _ _).alloc (Nat.le_refl _) _
    go_enter Tryz.func123, Tryz.ntmps123
    go_wp2_with (refine wpList_store_mid rfl 68 _ _ rfl w.heap.size 0 (row zeros).toArray rfl rfl ?t1 ?t2 ?t3 ?_)
    case t1 => exact there_row H0.out rfl
    case t2 => exact hi2 _ rfl
    case t3 => exact all_oneCell_toArray (row_one _)
    · refine bodyPost_ret (v := .tuple #[.agg (row zeros).toArray, .iface 37 (.int .i64 12)]) (results_mid2 (t2 := 27) Tryz.results123 _ _ w.heap.size _ _ _ rfl rfl (World.rangeAt_setCells_same _ w.heap.size 0 _ ?_) Tryz.underlying68 rfl (hi2 _ rfl)) rfl ⟨below_setCells (Nat.le_refl _) _ _ _ _ HB.out, fun h => absurd h.1 h40, fun _ => rfl⟩
      exact there_row H0.out rfl
end Go.Proofs.YtijeogdnjeamaaaGreatDoor.Hx
