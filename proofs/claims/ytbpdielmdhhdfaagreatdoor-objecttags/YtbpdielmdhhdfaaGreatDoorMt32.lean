import Derived.Test.YtbpdielmdhhdfaaGreatDoorMt24
import Derived.Test.YtbpdielmdhhdfaaGreatDoorMt31
/- 'Parse' of the document, walked. -/
namespace Go.Proofs.YtbpdielmdhhdfaaGreatDoor.Hx
open Go.RowKit
set_option linter.unusedVariables false

set_option maxRecDepth 20000 in
set_option maxHeartbeats 1000000 in
theorem parse_ref (s : ByteArray) (w : World) (hl : s.size ≤ 300000) :
    Calls Tryz.prog 108 #[.string s] w fun e w' => Below w.heap.size w w' ∧ ((s.size = 40 ∧ good s → e = .returned (.tuple #[.agg (row (idAt s 40)).toArray, .bool true])) ∧ (¬ (s.size = 40 ∧ good s) → e = .returned (.tuple #[.agg (row zeros).toArray, .bool false]))) := by
  have hi2 : ∀ l : List Int, l.length = 20 → (Tryz.prog.info? 31).map (·.size) = some (row l).length := fun l h => by rw [row_len, h]; exact Tryz.info31
  by_cases h40 : s.size = 40
  · go_enter Tryz.func108, Tryz.ntmps108
    go_wp2
    go_loopg [5] 40 (fun k i wr => ∃ j : Nat, j ≤ 40 ∧ k = 40 - j ∧ i = .int .i64 j ∧ (∀ k, k < j → 0 ≤ hv (sgn s k)) ∧ Hid (wr.heap[w.heap.size + 1]? = some (.cells (row (idAt s j)).toArray 31 (0, 0))) ∧ Hid (wr.heap[w.heap.size]? = some (.cells (row zeros).toArray 31 (0, 0))) ∧ Hid (Below w.heap.size w wr))
    case atStart => exact ⟨0, by omega, rfl, rfl, fun k hk => by omega, heap_alloc2_new w _ _, heap_alloc2_old w _ _, ((Below.refl _ _).alloc (Nat.le_refl _) _).alloc (by simp) _⟩
    case round =>
      obtain ⟨j, hj, hk, rfl, hgd, H1, H0, HB⟩ := hrel
      by_cases hlt : j < 40
      · obtain ⟨c, HC⟩ : ∃ c, Hid (c = sgn s j) := ⟨_, rfl⟩
        have hix : ∀ w1 : World, (Instr.index 9 (.string s) (.int .i64 j)).run Tryz.prog w1 = .ok (.int .u8 c) w1 := fun w1 => by rw [HC.out]; exact index_sgn s j w1 (by omega)
        have hcb : 0 ≤ c ∧ c < 256 := by rw [HC.out]; exact sgn_bd s j
        obtain ⟨m, HM⟩ : ∃ m, Hid (m = j / 2) := ⟨_, rfl⟩
        have hm : j / 2 = m := HM.out.symm
        have hm2 : m < 20 := by omega
        obtain ⟨x, HX⟩ : ∃ x, Hid (x = (idAt s j).getD (j / 2) 0) := ⟨_, rfl⟩
        have hcell : wr.cell? ⟨w.heap.size + 1, j / 2, none⟩ = some (.int .u8 x) := by rw [HX.out]; exact row_cell H1.out (j / 2) (by rw [idAt_len]; omega)
        have hfz := frozen_of_row wr (w.heap.size + 1) (j / 2) _ 31 H1.out
        have hxb : 0 ≤ x ∧ x < 256 := idAt_bd s j x (by rw [HX.out, List.getD_eq_getElem?_getD, List.getElem?_eq_getElem (by rw [idAt_len]; omega)]; exact List.getElem_mem _)
        rw [hm] at hcell hfz
        by_cases hd : 48 ≤ c ∧ c ≤ 57
        · have hvc : hv c = c - 48 := by unfold hv; rw [if_pos hd]
          go_wp2
          go_roundg (40 - (j + 1))
          case measure => omega
          case rel =>
            refine ⟨j + 1, by omega, rfl, by go_num, ?_, ?_, ?_, HB.out.setCell (by simp) _⟩
            · intro k hk
              rcases Nat.lt_or_ge k j with h | h
              · exact hgd k h
              · obtain rfl : k = j := by omega
                rw [← HC.out, hvc]; omega
            · show _ = _
              rw [heap_setCell_same wr _ _ _ _ _ H1.out, idAt, ← HX.out, ← HC.out, hvc, hm, row_set, show x * 16 % 256 + (c - 48) = (x * 16 + (c - 48)) % 256 from by omega]
            · show _ = _
              rw [heap_setCell_other wr _ _ _ (by simp)]; exact H0.out
        · by_cases hd2 : 97 ≤ c ∧ c ≤ 102
          · have hvc : hv c = c - 87 := by unfold hv; rw [if_neg hd, if_pos hd2]
            have hd1 : ¬ c ≤ 57 := by omega
            go_wp2
            go_roundg (40 - (j + 1))
            case measure => omega
            case rel =>
              refine ⟨j + 1, by omega, rfl, by go_num, ?_, ?_, ?_, HB.out.setCell (by simp) _⟩
              · intro k hk
                rcases Nat.lt_or_ge k j with h | h
                · exact hgd k h
                · obtain rfl : k = j := by omega
                  rw [← HC.out, hvc]; omega
              · show _ = _
                rw [heap_setCell_same wr _ _ _ _ _ H1.out, idAt, ← HX.out, ← HC.out, hvc, hm, row_set, show x * 16 % 256 + (c - 97 + 10) = (x * 16 + (c - 87)) % 256 from by omega]
              · show _ = _
                rw [heap_setCell_other wr _ _ _ (by simp)]; exact H0.out
          · have hvc : hv c = -1 := by unfold hv; rw [if_neg hd, if_neg hd2]
            have fin : ∀ (tm : Array Value), tm.getD 2 undef = .pointer (some ⟨w.heap.size, 0, none⟩) → tm.getD 3 undef = .bool false → (results Tryz.f108 tm).run Tryz.prog (wr.setCells w.heap.size 0 (row zeros).toArray.toList) = .ok (.tuple #[.agg (row zeros).toArray, .bool false]) (wr.setCells w.heap.size 0 (row zeros).toArray.toList) := fun tm h2 h3 =>
              results_mid2 (t2 := 4) Tryz.results108 tm _ w.heap.size _ _ _ h2 h3 (World.rangeAt_setCells_same _ w.heap.size 0 _ (there_row H0.out rfl)) Tryz.underlying31 rfl (hi2 _ rfl)
            have bad : Hid (¬ good s) := fun h => absurd (h j hlt) (by rw [← HC.out, hvc]; omega)
            have HF : Hid (Below w.heap.size w (wr.setCells w.heap.size 0 (row zeros).toArray.toList)) := below_setCells (Nat.le_refl _) _ _ _ _ HB.out
            rcases (by omega : c < 48 ∨ (57 < c ∧ 48 ≤ c ∧ c < 97) ∨ (102 < c ∧ 97 ≤ c ∧ 57 < c ∧ 48 ≤ c)) with h1 | h1 | h1
            all_goals
              go_wp2_with (refine wpList_store_mid rfl 31 _ _ rfl w.heap.size 0 (row zeros).toArray rfl rfl (there_row H0.out rfl) (hi2 _ rfl) (all_oneCell_toArray (row_one _)) ?_)
              exact bodyPost_ret (v := .tuple #[.agg (row zeros).toArray, .bool false]) (fin _ rfl rfl) rfl ⟨HF.out, fun h => absurd h bad.out, fun _ => rfl⟩
      · obtain rfl : j = 40 := by omega
        go_wp2_with (first | refine wpList_load_mid rfl 31 _ rfl (w.heap.size + 1) 0 rfl (row (idAt s 40)) _ (range_row H1.out) Tryz.underlying31 rfl (hi2 _ (idAt_len s 40)) ?_ | refine wpList_store_mid rfl 31 _ _ rfl w.heap.size 0 (row (idAt s 40)).toArray rfl rfl ?t1 ?t2 ?t3 ?_)
        case t1 => rw [show (row (idAt s 40)).toArray.size = 20 from by rw [List.size_toArray, row_len, idAt_len]]; exact there_row H0.out rfl
        case t2 => rw [List.size_toArray]; exact hi2 _ (idAt_len s 40)
        case t3 => exact all_oneCell_toArray (row_one _)
        · refine bodyPost_ret (v := .tuple #[.agg (row (idAt s 40)).toArray, .bool true]) (results_mid2 (t2 := 4) Tryz.results108 _ _ w.heap.size _ _ _ rfl rfl (World.rangeAt_setCells_same wr w.heap.size 0 _ ?_) Tryz.underlying31 rfl (hi2 _ (idAt_len s 40))) rfl ⟨below_setCells (Nat.le_refl _) _ _ _ _ HB.out, fun _ => rfl, fun h => absurd ⟨h40, hgd⟩ h⟩
          rw [row_len, idAt_len]; exact there_row H0.out rfl
  · have hnq : (s.size : Int) ≠ 40 := by omega
    have H1 : Hid (((w.alloc (.cells (row zeros).toArray 31)).alloc (.cells (row zeros).toArray 31)).heap[w.heap.size + 1]? = some (.cells (row zeros).toArray 31 (0, 0))) := heap_alloc2_new w _ _
    have H0 : Hid (((w.alloc (.cells (row zeros).toArray 31)).alloc (.cells (row zeros).toArray 31)).heap[w.heap.size]? = some (.cells (row zeros).toArray 31 (0, 0))) := heap_alloc2_old w _ _
    have HB : Hid (Below w.heap.size w ((w.alloc (.cells (row zeros).toArray 31)).alloc (.cells (row zeros).toArray 31))) := ((Below.refl _ _).alloc (Nat.le_refl _) _).alloc (by simp) _
    go_enter Tryz.func108, Tryz.ntmps108
    go_wp2_with (first | refine wpList_load_mid rfl 31 _ rfl (w.heap.size + 1) 0 rfl (row zeros) _ (range_row H1.out) Tryz.underlying31 rfl (hi2 _ rfl) ?_ | refine wpList_store_mid rfl 31 _ _ rfl w.heap.size 0 (row zeros).toArray rfl rfl ?t1 ?t2 ?t3 ?_)
    case t1 => exact there_row H0.out rfl
    case t2 => exact hi2 _ rfl
    case t3 => exact all_oneCell_toArray (row_one _)
    · refine bodyPost_ret (v := .tuple #[.agg (row zeros).toArray, .bool false]) (results_mid2 (t2 := 4) Tryz.results108 _ _ w.heap.size _ _ _ rfl rfl (World.rangeAt_setCells_same _ w.heap.size 0 _ ?_) Tryz.underlying31 rfl (hi2 _ rfl)) rfl ⟨below_setCells (Nat.le_refl _) _ _ _ _ HB.out, fun h => absurd h.1 h40, fun _ => rfl⟩
      exact there_row H0.out rfl
end Go.Proofs.YtbpdielmdhhdfaaGreatDoor.Hx
/- What was written as an id, a tag, is read again. -/
namespace Go.Proofs.YtbpdielmdhhdfaaGreatDoor.Hx
open Go.RowKit
set_option linter.unusedVariables false
set_option linter.unusedSimpArgs false
theorem str_size (l : List Int) : (strOfNums l).size = l.length := by simp [strOfNums, ByteArray.size]
theorem str_sgn (l : List Int) (k : Nat) (h : k < l.length) (hb : ∀ n ∈ l, 0 ≤ n ∧ n < 256) : sgn (strOfNums l) k = l.getD k 0 := by
  have hm := hb _ (List.getElem_mem h)
  unfold sgn strOfNums
  simp [h]
  omega
theorem dig_bd (n : Int) (h : 0 ≤ n ∧ n < 16) : 0 ≤ dig n ∧ dig n < 256 := by unfold dig; split <;> omega
theorem hv_dig (n : Int) (h : 0 ≤ n ∧ n < 16) : hv (dig n) = n := by
  unfold hv dig
  by_cases a : n < 10
  · rw [if_pos a, if_pos (by omega)]; omega
  · rw [if_neg a, if_neg (by omega), if_pos (by omega)]; omega
theorem hexOf_bd (zs : List Int) (hz : ∀ n ∈ zs, 0 ≤ n ∧ n < 256) : ∀ n ∈ hexOf zs, 0 ≤ n ∧ n < 256 := by
  intro n hn
  simp only [hexOf, List.mem_flatMap] at hn
  obtain ⟨x, hx, hn⟩ := hn
  have := hz x hx
  simp at hn
  rcases hn with rfl | rfl
  · exact dig_bd _ (by omega)
  · exact dig_bd _ (by omega)
theorem hexOf_at : ∀ (zs : List Int) (k : Nat), k < zs.length → (hexOf zs).getD (2 * k) 0 = dig (zs.getD k 0 / 16) ∧ (hexOf zs).getD (2 * k + 1) 0 = dig (zs.getD k 0 % 16)
  | x :: r, 0, _ => by simp [hexOf]
  | x :: r, k + 1, h => by
    have := hexOf_at r k (by simpa using h)
    have e : hexOf (x :: r) = dig (x / 16) :: dig (x % 16) :: hexOf r := by simp [hexOf]
    rw [e, show 2 * (k + 1) = 2 * k + 1 + 1 from by omega, show 2 * k + 1 + 1 + 1 = (2 * k + 1) + 1 + 1 from rfl]
    simpa using this
theorem hex_sgn (zs : List Int) (hl : zs.length = 20) (hz : ∀ n ∈ zs, 0 ≤ n ∧ n < 256) (k : Nat) (hk : k < 40) : hv (sgn (strOfNums (hexOf zs)) k) = if k % 2 = 0 then zs.getD (k / 2) 0 / 16 else zs.getD (k / 2) 0 % 16 := by
  rw [str_sgn _ k (by rw [hexOf_len]; omega) (hexOf_bd zs hz)]
  have hx := hz (zs.getD (k / 2) 0) (by rw [List.getD_eq_getElem?_getD, List.getElem?_eq_getElem (by omega)]; exact List.getElem_mem _)
  obtain ⟨h0, h1⟩ := hexOf_at zs (k / 2) (by omega)
  by_cases h2 : k % 2 = 0
  · rw [if_pos h2, show k = 2 * (k / 2) from by omega, h0, show 2 * (k / 2) / 2 = k / 2 from by omega]
    exact hv_dig _ (by omega)
  · rw [if_neg h2]
    have e : (hexOf zs).getD k 0 = (hexOf zs).getD (2 * (k / 2) + 1) 0 := by congr 1; omega
    rw [e, h1]
    exact hv_dig _ (by omega)
theorem hex_good (zs : List Int) (hl : zs.length = 20) (hz : ∀ n ∈ zs, 0 ≤ n ∧ n < 256) : good (strOfNums (hexOf zs)) := fun k hk => by
  have hx := hz (zs.getD (k / 2) 0) (by rw [List.getD_eq_getElem?_getD, List.getElem?_eq_getElem (by omega)]; exact List.getElem_mem _)
  rw [hex_sgn zs hl hz k hk]
  split <;> omega
theorem getD_set (l : List Int) (i j : Nat) (v : Int) (hi : i < l.length) : (l.set i v).getD j 0 = if i = j then v else l.getD j 0 := by
  rw [List.getD_eq_getElem?_getD, List.getElem?_set]
  by_cases h : i = j
  · subst h; simp [hi]
  · simp [h]
/-- What was written is read again. -/
theorem hex_back_at (zs : List Int) (hl : zs.length = 20) (hz : ∀ n ∈ zs, 0 ≤ n ∧ n < 256) : ∀ k, k ≤ 40 → ∀ j, j < 20 → (idAt (strOfNums (hexOf zs)) k).getD j 0 = if 2 * j + 1 < k then zs.getD j 0 else if 2 * j < k then zs.getD j 0 / 16 else 0
  | 0, _, j, hj => by
    rw [if_neg (by omega), if_neg (by omega)]
    simp only [idAt, zeros, List.getD_eq_getElem?_getD, List.getElem?_replicate]; split <;> rfl
  | k + 1, hk, j, hj => by
    have ih := hex_back_at zs hl hz k (by omega)
    have hx := hz (zs.getD j 0) (by rw [List.getD_eq_getElem?_getD, List.getElem?_eq_getElem (by omega)]; exact List.getElem_mem _)
    rw [idAt, getD_set _ _ _ _ (by rw [idAt_len]; omega), hex_sgn zs hl hz k (by omega)]
    by_cases e : k / 2 = j
    · rw [if_pos e, ih (k / 2) (by omega), e]
      by_cases h2 : k % 2 = 0
      · rw [if_pos h2, if_neg (by omega), if_neg (by omega), if_neg (by omega), if_pos (by omega)]; omega
      · rw [if_neg h2, if_neg (by omega), if_pos (by omega), if_pos (by omega)]; omega
    · rw [if_neg e, ih j hj]
      by_cases h : 2 * j + 1 < k
      · rw [if_pos h, if_pos (by omega)]
      · rw [if_neg h]
        by_cases h' : 2 * j < k
        · omega
        · rw [if_neg h', if_neg (show ¬ 2 * j + 1 < k + 1 by omega), if_neg (show ¬ 2 * j < k + 1 by omega)]
theorem hex_back (zs : List Int) (hl : zs.length = 20) (hz : ∀ n ∈ zs, 0 ≤ n ∧ n < 256) : idAt (strOfNums (hexOf zs)) 40 = zs := by
  apply List.ext_getElem (by rw [idAt_len, hl])
  intro j h1 h2
  have := hex_back_at zs hl hz 40 (Nat.le_refl _) j (by omega)
  rw [if_pos (by omega)] at this
  simpa [h1, h2] using this
end Go.Proofs.YtbpdielmdhhdfaaGreatDoor.Hx
namespace Go.Proofs.YtbpdielmdhhdfaaGreatDoor
set_option linter.unusedVariables false
set_option linter.unusedSimpArgs false
theorem pid_back (id fr : List Int) (hl : id.length = 20) (hz : ∀ n ∈ id, 0 ≤ n ∧ n < 256) (h : PId (hexB id) fr) : fr = id := by
  have e : (⟨(hexB id).toArray⟩ : ByteArray) = strOfNums (Hx.hexOf id) := rfl
  have h2 := h.2.2 ⟨by rw [hexB_len, hl], by rw [e]; exact Hx.hex_good id hl hz⟩
  rw [h2, e]
  exact Hx.hex_back id hl hz
theorem kO_back (k : Int) (hk : ¬ (kN k).toList.isEmpty = true) (j : Nat) (h : kO ⟨(kN k).data.toList.toArray⟩ j) : (j : Int) = k := by
  have hc : k = 1 ∨ k = 2 ∨ k = 3 ∨ k = 4 := by
    unfold kN at hk
    by_cases h1 : k = 1
    · exact .inl h1
    by_cases h2 : k = 2
    · exact .inr (.inl h2)
    by_cases h3 : k = 3
    · exact .inr (.inr (.inl h3))
    by_cases h4 : k = 4
    · exact .inr (.inr (.inr h4))
    rw [if_neg (by simpa using h1), if_neg (by simpa using h2), if_neg (by simpa using h3), if_neg (by simpa using h4)] at hk
    rw [Lib.toList_data] at hk
    exact absurd rfl hk
  have e : (⟨(kN k).data.toList.toArray⟩ : ByteArray) = kN k := rfl
  rw [e] at h
  rcases h with ⟨h1, h2, h3⟩ | ⟨h1, h2⟩
  · have hj : j = 1 ∨ j = 2 ∨ j = 3 ∨ j = 4 := by omega
    rw [Lib.toList_data, Lib.toList_data] at h3
    rcases hc with rfl | rfl | rfl | rfl <;> rcases hj with rfl | rfl | rfl | rfl <;> first | rfl | (exact absurd h3 (by decide))
  · rcases hc with rfl | rfl | rfl | rfl
    · have h3 := h2 1 (by omega) (by omega)
      rw [Lib.toList_data, Lib.toList_data] at h3
      exact absurd h3 (by decide)
    · have h3 := h2 2 (by omega) (by omega)
      rw [Lib.toList_data, Lib.toList_data] at h3
      exact absurd h3 (by decide)
    · have h3 := h2 3 (by omega) (by omega)
      rw [Lib.toList_data, Lib.toList_data] at h3
      exact absurd h3 (by decide)
    · have h3 := h2 4 (by omega) (by omega)
      rw [Lib.toList_data, Lib.toList_data] at h3
      exact absurd h3 (by decide)
theorem hexB_no (id : List Int) (hz : ∀ n ∈ id, 0 ≤ n ∧ n < 256) : (10 : UInt8) ∉ hexB id := by
  intro h
  obtain ⟨n, hn, e⟩ := List.mem_map.1 h
  unfold Hx.hexOf at hn
  obtain ⟨x, hx, hn⟩ := List.mem_flatMap.1 hn
  have hb := hz x hx
  have hd : ∀ y : Int, 0 ≤ y → y < 16 → 48 ≤ Hx.dig y ∧ Hx.dig y < 103 := fun y h1 h2 => by unfold Hx.dig; split <;> omega
  have hn2 : 48 ≤ n ∧ n < 103 := by
    simp only [List.mem_cons, List.not_mem_nil, or_false] at hn
    rcases hn with rfl | rfl
    · exact hd _ (by omega) (by omega)
    · exact hd _ (by omega) (by omega)
  have h2 := congrArg UInt8.toNat e
  rw [UInt8.toNat_ofNat'] at h2
  have : (10 : UInt8).toNat = 10 := rfl
  omega
/-- A tag's bytes, line by line. -/
theorem tag_lines (t : Tg) : ∃ l1 l2 l3 l4, tagB t = wObject ++ 32 :: (hexB t.id ++ 10 :: l1) ∧ l1 = wType ++ 32 :: ((kN t.kind).data.toList ++ 10 :: l2) ∧ l2 = wTag ++ 32 :: (t.name ++ 10 :: l3) ∧ l3 = wTagger ++ 32 :: (perB t.per ++ 10 :: l4) ∧ l4 = 10 :: t.msg := by
  refine ⟨_, _, _, _, ?_, rfl, rfl, rfl, rfl⟩
  simp [tagB, ln2, w_object, w_type, w_tag, w_tagger, wObject, wType, wTag, wTagger]
end Go.Proofs.YtbpdielmdhhdfaaGreatDoor
