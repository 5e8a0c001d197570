import Derived.Test.YtijeogdnjeamaaaGreatDoorQp07
import Derived.Test.YtijeogdnjeamaaaGreatDoorQp03
import Derived.Lib.AppendZeros
import Derived.Lib.Split
import Derived.Lib.Strings
import Derived.Lib.IndexMore
namespace Go.Proofs.YtijeogdnjeamaaaGreatDoor.Hx
open Go.RowKit
set_option linter.unusedVariables false
set_option maxRecDepth 20000 in
set_option maxHeartbeats 1000000 in
theorem parse_ref (s : ByteArray) (w : World) (hl : s.size ≤ 300000) :
    Calls Tryz.prog 70 #[.string s] w fun e w' => Below w.heap.size w w' ∧ ((s.size = 40 ∧ good s → e = .returned (.tuple #[.agg (row (idAt s 40)).toArray, .bool true])) ∧ (¬ (s.size = 40 ∧ good s) → e = .returned (.tuple #[.agg (row zeros).toArray, .bool false]))) := by
  have hi2 : ∀ l : List Int, l.length = 20 → (Tryz.prog.info? 67).map (·.size) = some (row l).length := fun l h => by rw [row_len, h]; exact Tryz.info67
  by_cases h40 : s.size = 40
  · go_enter Tryz.func70, Tryz.ntmps70
    go_wp2
    go_loopg [5] 40 (fun k i wr => ∃ j : Nat, j ≤ 40 ∧ k = 40 - j ∧ i = .int .i64 j ∧ (∀ k, k < j → 0 ≤ hv (sgn s k)) ∧ Hid (wr.heap[w.heap.size + 1]? = some (.cells (row (idAt s j)).toArray 67 (0, 0))) ∧ Hid (wr.heap[w.heap.size]? = some (.cells (row zeros).toArray 67 (0, 0))) ∧ Hid (Below w.heap.size w wr))
    case atStart => exact ⟨0, by omega, rfl, rfl, fun k hk => by omega, heap_alloc2_new w _ _, heap_alloc2_old w _ _, ((Below.refl _ _).alloc (Nat.le_refl _) _).alloc (by simp) _⟩
    case round =>
      obtain ⟨j, hj, hk, rfl, hgd, H1, H0, HB⟩ := hrel
      by_cases hlt : j < 40
      · obtain ⟨c, HC⟩ : ∃ c, Hid (c = sgn s j) := ⟨_, rfl⟩
        have hix : ∀ w1 : World, (Instr.index 9 (.string s) (.int .i64 j)).run Tryz.prog w1 = .ok (.int .u8 c) w1 := fun w1 => by rw [HC.out]; exact index_sgn s j w1 (by omega)
        have hcb : 0 ≤ c ∧ c < 256 := by rw [HC.out]; exact sgn_bd s j
        obtain ⟨m, HM⟩ : ∃ m, Hid (m = j / 2) := ⟨_, rfl⟩
        have hm : j / 2 = m := HM.out.symm
        have hm2 : m < 20 := by omega
        obtain ⟨x, HX⟩ : ∃ x, Hid (x = (idAt s j).getD (j / 2) 0) := ⟨_, rfl⟩
        have hcell : wr.cell? ⟨w.heap.size + 1, j / 2, none⟩ = some (.int .u8 x) := by rw [HX.out]; exact row_cell H1.out (j / 2) (by rw [idAt_len]; omega)
        have hfz := frozen_of_row wr (w.heap.size + 1) (j / 2) _ 67 H1.out
        have hxb : 0 ≤ x ∧ x < 256 := idAt_bd s j x (by rw [HX.out, List.getD_eq_getElem?_getD, List.getElem?_eq_getElem (by rw [idAt_len]; omega)]; exact List.getElem_mem _)
        rw [hm] at hcell hfz
        by_cases hd : 48 ≤ c ∧ c ≤ 57
        · have hvc : hv c = c - 48 := by unfold hv; rw [if_pos hd]
          go_wp2
          go_roundg (40 - (j + 1))
          case measure => omega
          case rel =>
            refine ⟨j + 1, by omega, rfl, by go_num, ?_, ?_, ?_, HB.out.setCell (by simp) _⟩
            · intro k hk
              rcases Nat.lt_or_ge k j with h | h
              · exact hgd k h
              · obtain rfl : k = j := by omega
                rw [← HC.out, hvc]; omega
            · show _ = _
              rw [heap_setCell_same wr _ _ _ _ _ H1.out, idAt, ← HX.out, ← HC.out, hvc, hm, row_set, show x * 16 % 256 + (c - 48) = (x * 16 + (c - 48)) % 256 from by omega]
            · show _ = _
              rw [heap_setCell_other wr _ _ _ (by simp)]; exact H0.out
        · by_cases hd2 : 97 ≤ c ∧ c ≤ 102
          · have hvc : hv c = c - 87 := by unfold hv; rw [if_neg hd, if_pos hd2]
            have hd1 : ¬ c ≤ 57 := by omega
            go_wp2
            go_roundg (40 - (j + 1))
            case measure => omega
            case rel =>
              refine ⟨j + 1, by omega, rfl, by go_num, ?_, ?_, ?_, HB.out.setCell (by simp) _⟩
              · intro k hk
                rcases Nat.lt_or_ge k j with h | h
                · exact hgd k h
                · obtain rfl : k = j := by omega
                  rw [← HC.out, hvc]; omega
              · show _ = _
                rw [heap_setCell_same wr _ _ _ _ _ H1.out, idAt, ← HX.out, ← HC.out, hvc, hm, row_set, show x * 16 % 256 + (c - 97 + 10) = (x * 16 + (c - 87)) % 256 from by omega]
              · show _ = _
                rw [heap_setCell_other wr _ _ _ (by simp)]; exact H0.out
          · have hvc : hv c = -1 := by unfold hv; rw [if_neg hd, if_neg hd2]
            have fin : ∀ (tm : Array Value), tm.getD 2 undef = .pointer (some ⟨w.heap.size, 0, none⟩) → tm.getD 3 undef = .bool false → (results Tryz.f70 tm).run Tryz.prog (wr.setCells w.heap.size 0 (row zeros).toArray.toList) = .ok (.tuple #[.agg (row zeros).toArray, .bool false]) (wr.setCells w.heap.size 0 (row zeros).toArray.toList) := fun tm h2 h3 =>
              results_mid2 (t2 := 4) Tryz.results70 tm _ w.heap.size _ _ _ h2 h3 (World.rangeAt_setCells_same _ w.heap.size 0 _ (there_row H0.out rfl)) Tryz.underlying67 rfl (hi2 _ rfl)
            have bad : Hid (¬ good s) := fun h => absurd (h j hlt) (by rw [← HC.out, hvc]; omega)
            have HF : Hid (Below w.heap.size w (wr.setCells w.heap.size 0 (row zeros).toArray.toList)) := below_setCells (Nat.le_refl _) _ _ _ _ HB.out
            rcases (by omega : c < 48 ∨ (57 < c ∧ 48 ≤ c ∧ c < 97) ∨ (102 < c ∧ 97 ≤ c ∧ 57 < c ∧ 48 ≤ c)) with h1 | h1 | h1
            all_goals
              go_wp2_with (refine wpList_store_mid rfl 67 _ _ rfl w.heap.size 0 (row zeros).toArray rfl rfl (there_row H0.out rfl) (hi2 _ rfl) (all_oneCell_toArray (row_one _)) ?_)
              exact bodyPost_ret (v := .tuple #[.agg (row zeros).toArray, .bool false]) (fin _ rfl rfl) rfl ⟨HF.out, fun h => absurd h bad.out, fun _ => rfl⟩
      · obtain rfl : j = 40 := by omega
        go_wp2_with (first | refine wpList_load_mid rfl 67 _ rfl (w.heap.size + 1) 0 rfl (row (idAt s 40)) _ (range_row H1.out) Tryz.underlying67 rfl (hi2 _ (idAt_len s 40)) ?_ | refine wpList_store_mid rfl 67 _ _ rfl w.heap.size 0 (row (idAt s 40)).toArray rfl rfl ?t1 ?t2 ?t3 ?_)
        case t1 => rw [show (row (idAt s 40)).toArray.size = 20 from by rw [List.size_toArray, row_len, idAt_len]]; exact there_row H0.out rfl
        case t2 => rw [List.size_toArray]; exact hi2 _ (idAt_len s 40)
        case t3 => exact all_oneCell_toArray (row_one _)
        · refine bodyPost_ret (v := .tuple #[.agg (row (idAt s 40)).toArray, .bool true]) (results_mid2 (t2 := 4) Tryz.results70 _ _ w.heap.size _ _ _ rfl rfl (World.rangeAt_setCells_same wr w.heap.size 0 _ ?_) Tryz.underlying67 rfl (hi2 _ (idAt_len s 40))) rfl ⟨below_setCells (Nat.le_refl _) _ _ _ _ HB.out, fun _ => rfl, fun h => absurd ⟨h40, hgd⟩ h⟩
          rw [row_len, idAt_len]; exact there_row H0.out rfl
  · have hnq : (s.size : Int) ≠ 40 := by omega
    have H1 : Hid (((w.alloc (.cells (row zeros).toArray 67)).alloc (.cells (row zeros).toArray 67)).heap[w.heap.size + 1]? = some (.cells (row zeros).toArray 67 (0, 0))) := heap_alloc2_new w _ _
    have H0 : Hid (((w.alloc (.cells (row zeros).toArray 67)).alloc (.cells (row zeros).toArray 67)).heap[w.heap.size]? = some (.cells (row zeros).toArray 67 (0, 0))) := heap_alloc2_old w _ _
    have HB : Hid (Below w.heap.size w ((w.alloc (.cells (row zeros).toArray 67)).alloc (.cells (row zeros).toArray 67))) := ((Below.refl _ _).alloc (Nat.le_refl _) _).alloc (by simp) _
    go_enter Tryz.func70, Tryz.ntmps70
    go_wp2_with (first | refine wpList_load_mid rfl 67 _ rfl (w.heap.size + 1) 0 rfl (row zeros) _ (range_row H1.out) Tryz.underlying67 rfl (hi2 _ rfl) ?_ | refine wpList_store_mid rfl 67 _ _ rfl w.heap.size 0 (row zeros).toArray rfl rfl ?t1 ?t2 ?t3 ?_)
    case t1 => exact there_row H0.out rfl
    case t2 => exact hi2 _ rfl
    case t3 => exact all_oneCell_toArray (row_one _)
    · refine bodyPost_ret (v := .tuple #[.agg (row zeros).toArray, .bool false]) (results_mid2 (t2 := 4) Tryz.results70 _ _ w.heap.size _ _ _ rfl rfl (World.rangeAt_setCells_same _ w.heap.size 0 _ ?_) Tryz.underlying67 rfl (hi2 _ rfl)) rfl ⟨below_setCells (Nat.le_refl _) _ _ _ _ HB.out, fun h => absurd h.1 h40, fun _ => rfl⟩
      exact there_row H0.out rfl
end Go.Proofs.YtijeogdnjeamaaaGreatDoor.Hx
namespace Go.Proofs.YtijeogdnjeamaaaGreatDoor.Hx
open Go.RowKit
set_option linter.unusedVariables false
set_option linter.unusedSimpArgs false
theorem str_sgn (l : List Int) (k : Nat) (h : k < l.length) (hb : ∀ n ∈ l, 0 ≤ n ∧ n < 256) : sgn (strOfNums l) k = l.getD k 0 := by
  have hm := hb _ (List.getElem_mem h)
  unfold sgn strOfNums
  simp [h]
  omega
theorem dig_bd (n : Int) (h : 0 ≤ n ∧ n < 16) : 0 ≤ dig n ∧ dig n < 256 := by unfold dig; split <;> omega
theorem hv_dig (n : Int) (h : 0 ≤ n ∧ n < 16) : hv (dig n) = n := by
  unfold hv dig
  by_cases a : n < 10
  · rw [if_pos a, if_pos (by omega)]; omega
  · rw [if_neg a, if_neg (by omega), if_pos (by omega)]; omega
theorem hexOf_bd (zs : List Int) (hz : ∀ n ∈ zs, 0 ≤ n ∧ n < 256) : ∀ n ∈ hexOf zs, 0 ≤ n ∧ n < 256 := by
  intro n hn
  simp only [hexOf, List.mem_flatMap] at hn
  obtain ⟨x, hx, hn⟩ := hn
  have := hz x hx
  simp at hn
  rcases hn with rfl | rfl
  · exact dig_bd _ (by omega)
  · exact dig_bd _ (by omega)
theorem hexOf_at : ∀ (zs : List Int) (k : Nat), k < zs.length → (hexOf zs).getD (2 * k) 0 = dig (zs.getD k 0 / 16) ∧ (hexOf zs).getD (2 * k + 1) 0 = dig (zs.getD k 0 % 16)
  | x :: r, 0, _ => by simp [hexOf]
  | x :: r, k + 1, h => by
    have := hexOf_at r k (by simpa using h)
    have e : hexOf (x :: r) = dig (x / 16) :: dig (x % 16) :: hexOf r := by simp [hexOf]
    rw [e, show 2 * (k + 1) = 2 * k + 1 + 1 from by omega, show 2 * k + 1 + 1 + 1 = (2 * k + 1) + 1 + 1 from rfl]
    simpa using this
theorem hex_sgn (zs : List Int) (hl : zs.length = 20) (hz : ∀ n ∈ zs, 0 ≤ n ∧ n < 256) (k : Nat) (hk : k < 40) : hv (sgn (strOfNums (hexOf zs)) k) = if k % 2 = 0 then zs.getD (k / 2) 0 / 16 else zs.getD (k / 2) 0 % 16 := by
  rw [str_sgn _ k (by rw [hexOf_len]; omega) (hexOf_bd zs hz)]
  have hx := hz (zs.getD (k / 2) 0) (by rw [List.getD_eq_getElem?_getD, List.getElem?_eq_getElem (by omega)]; exact List.getElem_mem _)
  obtain ⟨h0, h1⟩ := hexOf_at zs (k / 2) (by omega)
  by_cases h2 : k % 2 = 0
  · rw [if_pos h2, show k = 2 * (k / 2) from by omega, h0, show 2 * (k / 2) / 2 = k / 2 from by omega]
    exact hv_dig _ (by omega)
  · rw [if_neg h2]
    have e : (hexOf zs).getD k 0 = (hexOf zs).getD (2 * (k / 2) + 1) 0 := by congr 1; omega
    rw [e, h1]
    exact hv_dig _ (by omega)
theorem hex_good (zs : List Int) (hl : zs.length = 20) (hz : ∀ n ∈ zs, 0 ≤ n ∧ n < 256) : good (strOfNums (hexOf zs)) := fun k hk => by
  have hx := hz (zs.getD (k / 2) 0) (by rw [List.getD_eq_getElem?_getD, List.getElem?_eq_getElem (by omega)]; exact List.getElem_mem _)
  rw [hex_sgn zs hl hz k hk]
  split <;> omega
theorem getD_set (l : List Int) (i j : Nat) (v : Int) (hi : i < l.length) : (l.set i v).getD j 0 = if i = j then v else l.getD j 0 := by
  rw [List.getD_eq_getElem?_getD, List.getElem?_set]
  by_cases h : i = j
  · subst h; simp [hi]
  · simp [h]
theorem hex_back_at (zs : List Int) (hl : zs.length = 20) (hz : ∀ n ∈ zs, 0 ≤ n ∧ n < 256) : ∀ k, k ≤ 40 → ∀ j, j < 20 → (idAt (strOfNums (hexOf zs)) k).getD j 0 = if 2 * j + 1 < k then zs.getD j 0 else if 2 * j < k then zs.getD j 0 / 16 else 0
  | 0, _, j, hj => by
    rw [if_neg (by omega), if_neg (by omega)]
    simp only [idAt, zeros, List.getD_eq_getElem?_getD, List.getElem?_replicate]; split <;> rfl
  | k + 1, hk, j, hj => by
    have ih := hex_back_at zs hl hz k (by omega)
    have hx := hz (zs.getD j 0) (by rw [List.getD_eq_getElem?_getD, List.getElem?_eq_getElem (by omega)]; exact List.getElem_mem _)
    rw [idAt, getD_set _ _ _ _ (by rw [idAt_len]; omega), hex_sgn zs hl hz k (by omega)]
    by_cases e : k / 2 = j
    · rw [if_pos e, ih (k / 2) (by omega), e]
      by_cases h2 : k % 2 = 0
      · rw [if_pos h2, if_neg (by omega), if_neg (by omega), if_neg (by omega), if_pos (by omega)]; omega
      · rw [if_neg h2, if_neg (by omega), if_pos (by omega), if_pos (by omega)]; omega
    · rw [if_neg e, ih j hj]
      by_cases h : 2 * j + 1 < k
      · rw [if_pos h, if_pos (by omega)]
      · rw [if_neg h]
        by_cases h' : 2 * j < k
        · omega
        · rw [if_neg h', if_neg (show ¬ 2 * j + 1 < k + 1 by omega), if_neg (show ¬ 2 * j < k + 1 by omega)]
theorem hex_back (zs : List Int) (hl : zs.length = 20) (hz : ∀ n ∈ zs, 0 ≤ n ∧ n < 256) : idAt (strOfNums (hexOf zs)) 40 = zs := by
  apply List.ext_getElem (by rw [idAt_len, hl])
  intro j h1 h2
  have := hex_back_at zs hl hz 40 (Nat.le_refl _) j (by omega)
  rw [if_pos (by omega)] at this
  simpa [h1, h2] using this
end Go.Proofs.YtijeogdnjeamaaaGreatDoor.Hx
namespace Go.Proofs.YtijeogdnjeamaaaGreatDoor
open Go.RowKit
set_option linter.unusedVariables false
set_option linter.unusedSimpArgs false
def hxS (x : List Int) : Str := (Hx.hexOf x).map fun n => UInt8.ofNat n.toNat
theorem hxS_str (x : List Int) : strOfNums (Hx.hexOf x) = ⟨(hxS x).toArray⟩ := rfl
theorem hxS_len (x : List Int) (h : IdW x) : (hxS x).length = 40 := by unfold hxS; rw [List.length_map, Hx.hexOf_len, h.1]
theorem hxS_no (x : List Int) (h : IdW x) (c : UInt8) (hc : c.toNat < 48) : c ∉ hxS x := by
  intro hm
  obtain ⟨n, hn, e⟩ := List.mem_map.1 hm
  unfold Hx.hexOf at hn
  obtain ⟨y, hy, hn⟩ := List.mem_flatMap.1 hn
  have hb := h.2 y hy
  have hd : ∀ y : Int, 0 ≤ y → y < 16 → 48 ≤ Hx.dig y ∧ Hx.dig y < 103 := fun y h1 h2 => by unfold Hx.dig; split <;> omega
  have hn2 : 48 ≤ n ∧ n < 103 := by
    simp only [List.mem_cons, List.not_mem_nil, or_false] at hn
    rcases hn with rfl | rfl
    · exact hd _ (by omega) (by omega)
    · exact hd _ (by omega) (by omega)
  have h2 := congrArg UInt8.toNat e
  rw [UInt8.toNat_ofNat'] at h2
  omega
def prs (s : Str) : Option (List Int) := if s.length = 40 ∧ ((List.range 40).all fun k => decide (0 ≤ Hx.hv (Hx.sgn ⟨s.toArray⟩ k))) = true then some (Hx.idAt ⟨s.toArray⟩ 40) else none
theorem prs_iff (s : Str) : (s.length = 40 ∧ ((List.range 40).all fun k => decide (0 ≤ Hx.hv (Hx.sgn ⟨s.toArray⟩ k))) = true) ↔ ((⟨s.toArray⟩ : ByteArray).size = 40 ∧ Hx.good ⟨s.toArray⟩) := by
  have e : (⟨s.toArray⟩ : ByteArray).size = s.length := by simp [ByteArray.size]
  rw [e]
  unfold Hx.good
  simp [List.all_eq_true]
theorem prs_yes {s : Str} (h : (⟨s.toArray⟩ : ByteArray).size = 40 ∧ Hx.good ⟨s.toArray⟩) : prs s = some (Hx.idAt ⟨s.toArray⟩ 40) := by rw [prs, if_pos ((prs_iff s).2 h)]
theorem prs_not {s : Str} (h : ¬ ((⟨s.toArray⟩ : ByteArray).size = 40 ∧ Hx.good ⟨s.toArray⟩)) : prs s = none := by rw [prs, if_neg (fun k => h ((prs_iff s).1 k))]
theorem prs_wf {s : Str} {x : List Int} (h : prs s = some x) : IdW x ∧ s.length = 40 := by
  unfold prs at h
  split at h
  · rename_i hc
    rw [← Option.some.inj h]
    exact ⟨⟨Hx.idAt_len _ _, Hx.idAt_bd _ _⟩, hc.1⟩
  · exact absurd h (by simp)
theorem prs_hx (x : List Int) (h : IdW x) : prs (hxS x) = some x := by
  have e := hxS_str x
  have hg := Hx.hex_good x h.1 h.2
  have hb := Hx.hex_back x h.1 h.2
  rw [e] at hg hb
  rw [prs_yes ⟨by simp only [ByteArray.size, List.size_toArray]; exact hxS_len x h, hg⟩, hb]
theorem prs_short {s : Str} (h : s.length ≠ 40) : prs s = none := by rw [prs, if_neg (fun k => h k.1)]
theorem noEnd_tx (t : Str) : noEnd (tx t) = t := by
  unfold tx
  split
  · rename_i h; subst h; rfl
  · unfold noEnd trS
    rw [if_pos ⟨by simp, by simp⟩]
    simp
theorem noEnd_len (t : Str) : (noEnd t).length ≤ t.length := by
  unfold noEnd trS
  split
  · rw [List.length_take]; omega
  · exact Nat.le_refl _
theorem tx_len (t : Str) : (tx t).length ≤ t.length + 1 := by
  unfold tx
  split
  · simp
  · simp
theorem map_noEnd (l : List Str) : (l.map tx).map noEnd = l := by
  rw [List.map_map]
  conv => rhs; rw [← List.map_id l]
  exact List.map_congr_left fun x _ => noEnd_tx x
theorem pktL_inj {a b : List Str} (ha : okL a) (hb : okL b) (h : pktL a = pktL b) : a = b := by
  obtain ⟨r, e1, e2⟩ := pktL_pre b a [] hb ha (by rw [h, List.append_nil])
  have : r = [] := by
    cases r with
    | nil => rfl
    | cons x r =>
      have := congrArg List.length e2
      rw [show pktL (x :: r) = pkt x ++ pktL r from rfl, List.length_append, pkt_len] at this
      simp at this
      omega
  rw [e1, this, List.append_nil]
def wdsA : Str → Str → List Str
  | w, [] => [w]
  | w, c :: r => if c = 10 ∧ r = [] then [w] else if c = 32 then w :: wdsA [] r else wdsA (w ++ [c]) r
theorem wds_len : ∀ (r w : Str), ∀ y ∈ wdsA w r, y.length ≤ w.length + r.length
  | [], w, y, hy => by rw [wdsA] at hy; rw [List.mem_singleton.1 hy]; simp
  | c :: r, w, y, hy => by
    rw [wdsA] at hy
    split at hy
    · rw [List.mem_singleton.1 hy]; simp
    · split at hy
      · rcases List.mem_cons.1 hy with rfl | hy
        · simp
        · have := wds_len r [] y hy
          simp at this ⊢
          omega
      · have := wds_len r (w ++ [c]) y hy
        simp at this ⊢
        omega
theorem wds_plain : ∀ (u w : Str), (10 : UInt8) ∉ u → (32 : UInt8) ∉ u → wdsA w (u ++ [10]) = [w ++ u]
  | [], w, _, _ => by simp [wdsA]
  | c :: u, w, h1, h2 => by
    have hc1 : c ≠ 10 := fun e => h1 (by simp [e])
    have hc2 : c ≠ 32 := fun e => h2 (by simp [e])
    rw [List.cons_append, wdsA, if_neg (fun h => hc1 h.1), if_neg hc2, wds_plain u (w ++ [c]) (fun h => h1 (by simp [h])) (fun h => h2 (by simp [h]))]
    simp
theorem wds_blank : ∀ (u w r : Str), (10 : UInt8) ∉ u → (32 : UInt8) ∉ u → wdsA w (u ++ 32 :: r) = (w ++ u) :: wdsA [] r
  | [], w, r, _, _ => by
    rw [List.nil_append, wdsA, if_neg (fun h => by have := h.1; revert this; decide), if_pos rfl, List.append_nil]
  | c :: u, w, r, h1, h2 => by
    have hc1 : c ≠ 10 := fun e => h1 (by simp [e])
    have hc2 : c ≠ 32 := fun e => h2 (by simp [e])
    rw [List.cons_append, wdsA, if_neg (fun h => hc1 h.1), if_neg hc2, wds_blank u (w ++ [c]) r (fun h => h1 (by simp [h])) (fun h => h2 (by simp [h]))]
    simp
end Go.Proofs.YtijeogdnjeamaaaGreatDoor
namespace Go.Proofs.YtijeogdnjeamaaaGreatDoor
open Go.RowKit
set_option linter.unusedVariables false
set_option linter.unusedSimpArgs false
theorem size68 : (Tryz.prog.info? 68).map (·.size) = some 20 := by kernel_rfl
theorem size67 : (Tryz.prog.info? 67).map (·.size) = some 20 := by kernel_rfl
end Go.Proofs.YtijeogdnjeamaaaGreatDoor
namespace Go.Proofs.YtijeogdnjeamaaaGreatDoor
open Go.RowKit
set_option linter.unusedVariables false
set_option linter.unusedSimpArgs false
theorem step_callf {P : Program} {ops : Array Oper} {o : Oper} {a : Act} {w : World} {K : Act → World → Prop} {Q : Exit → Act → World → Prop} {E : Prop} (hg : o.guard = none) (x : Operand) (f : FuncId) (caps : List Value) (args : List Operand) (ts : Array TypeId) (vs : List Value) (R : Ending → World → Prop)
    (ho : o.op = .call { callee := .value x, args := args.toArray, argTypes := ts }) (hf : a.eval x = .func (.func f) #[] caps.toArray) (hx : args.map a.eval = vs) (hent : ∀ w : World, (callFunc f (vs ++ caps).toArray).run P w = .ok (.enter f (vs ++ caps).toArray) w)
    (hc : Calls P f (vs ++ caps).toArray w R) (h : ∀ e w', R e w' → ∃ r, e = .returned r ∧ K (a.put o.dst r) w') :
    if Region.wanted o (yielded ops a.tmps) = true then Oper.wp P o a w K Q else E := by
  have hw : Region.wanted o (yielded ops a.tmps) = true := by simp [Region.wanted, hg]
  rw [if_pos hw]
  unfold Oper.wp
  have hent' : ∀ w : World, (callFunc f (vs.toArray ++ caps.toArray)).run P w = .ok (.enter f (vs ++ caps).toArray) w := fun w => by rw [List.append_toArray]; exact hent w
  simp only [execOp, ho, resolve, hf, List.map_toArray, hx, Deferred.ofValue]
  simp only [invoke, go_sem, Array.empty_append, hent']
  simp [go_sem, hent, Oper.upon_enter]
  refine hc.mono ?_
  intro e w' hr
  obtain ⟨r, rfl, hk⟩ := h e w' hr
  exact hk
theorem enter30 (x : Value) (w : World) : (callFunc 30 #[x]).run Tryz.prog w = .ok (.enter 30 #[x]) w := by kernel_rfl
theorem hexP (x : List Int) (h : IdW x) (w : World) : Calls Tryz.prog 30 #[idV x] w fun e w' => e = .returned (.string ⟨(hxS x).toArray⟩) ∧ Below w.heap.size w w' := Hx.hex_prog x w h.1 h.2
theorem hexD (x : List Int) (h : IdW x) (w : World) : Calls Tryz.prog 34 #[idV x] w fun e w' => e = .returned (.string ⟨(hxS x).toArray⟩) ∧ Below w.heap.size w w' := Hx.hex_ref x w h.1 h.2
end Go.Proofs.YtijeogdnjeamaaaGreatDoor
namespace Go.Proofs.YtijeogdnjeamaaaGreatDoor
open Go.RowKit
set_option linter.unusedVariables false
set_option linter.unusedSimpArgs false
theorem encS_len (l : List Str) : ∀ x ∈ l, (encS x).length = 1 := fun _ _ => rfl
theorem encS_one : ∀ x : Str, ∀ v ∈ encS x, v.oneCell' = true := fun x v hv => by rw [List.mem_singleton.1 hv]; rfl
set_option maxRecDepth 20000 in
theorem growS_zero (w : World) : Calls Tryz.prog 93 #[.slice none 0 0, .int .i64 0] w fun e w' => ∃ v, e = .returned v ∧ BS w w' w.heap.size v [] := by
  have HB : Hid (BS w w w.heap.size (.slice none 0 0) []) := hid (bs_nil w _ rfl)
  go_enter Tryz.func93, Tryz.ntmps93
  go_wp2
  go_ret
  exact ⟨_, rfl, HB.out⟩
set_option maxRecDepth 20000 in
set_option maxHeartbeats 1000000 in
theorem growS_some (n : Nat) (h1 : 1 ≤ n) (hn : n ≤ 2000) (w : World) : Calls Tryz.prog 93 #[.slice none 0 0, .int .i64 n] w fun e w' => ∃ v, e = .returned v ∧ BS w w' w.heap.size v [] := by
  obtain ⟨i, hi, hz0, hz1, hz2⟩ := info_parts info9
  have hr := fun ty w => Lib.run_append_nil_zeros (P := Tryz.prog) w 63 3 ty 9 i (.string ⟨#[]⟩) .i64 .i64 und63s und3i hi hz0 n h1 (by omega) (by omega) (by rw [hz2]; omega)
  have hc := grownCap_ge w n 0 9
  have hcm := grownCap_le_maxLen w n 0 9 (by unfold maxLen; omega)
  obtain ⟨cp, HC⟩ : ∃ cp, Hid (grownCap w n 0 9 = cp) := ⟨_, rfl⟩
  obtain ⟨R, HR⟩ : ∃ R : Array Value, Hid ((Builtin.zeroCells (Value.string ⟨#[]⟩).cells n ++ Builtin.zeroCells (Value.string ⟨#[]⟩).cells (cp - n)) = R) := ⟨_, rfl⟩
  have hr1 := hr 63 w
  rw [HC.out] at hr1 hc hcm
  rw [HR.out] at hr1
  have HRS : Hid (R.size = cp * 1) := hid (by
    rw [← HR.out]
    have hz : ∀ k, (Builtin.zeroCells (Value.string ⟨#[]⟩).cells k).size = k * 1 := fun k => by
      simp [Builtin.zeroCells, Value.cells]
    rw [Array.size_append, hz, hz, ← Nat.add_mul]
    congr 1
    omega)
  have hn0 : ¬ (n : Int) < 0 := by omega
  have hn1 : (0 : Int) < (n : Int) := by omega
  obtain ⟨G, HG⟩ : ∃ G, Hid (w.heap.size = G) := ⟨_, rfl⟩
  obtain ⟨w1, HW1⟩ : ∃ w1, Hid (w.drew.alloc (.cells R 9) = w1) := ⟨_, rfl⟩
  have HBI : Hid (BS w w1 G (.slice (some ⟨G, 0, none⟩) 0 cp) []) := hid (by
    rw [← HW1.out, ← HG.out]
    have hb : Below w.heap.size w (w.drew.alloc (.cells R 9)) := (below_drewH (Below.refl _ w) 1).alloc (Nat.le_refl _) _
    exact ⟨hb, ⟨rfl, .inr ⟨_, cp, R, rfl, Nat.le_refl _, heap_alloc_new w.drew _, Nat.zero_le _, hcm, HRS.out, by simp⟩⟩, hb.size⟩)
  rw [HW1.out, HG.out] at hr1
  rw [HG.out]
  clear hr hcm
  go_enter Tryz.func93, Tryz.ntmps93
  go_wp2_with (first
    | (at_builtin; refine Lib.wpList_append_run _ rfl _ _ 63 3 rfl _ _ rfl rfl _ _ hr1 ?_)
    | fail)
  go_ret
  exact ⟨_, rfl, HBI.out⟩
theorem growS_any (n : Nat) (hn : n ≤ 2000) (w : World) : Calls Tryz.prog 93 #[.slice none 0 0, .int .i64 n] w fun e w' => ∃ v, e = .returned v ∧ BS w w' w.heap.size v [] := by
  by_cases h : n = 0
  · subst h; exact growS_zero w
  · exact growS_some n (by omega) hn w
theorem flat_snoc (Ls : List (List Str)) (i : Nat) (h : i < Ls.length) : (Ls.take (i + 1)).flatten = (Ls.take i).flatten ++ Ls.getD i [] := by
  rw [take_snocG [] Ls i h, List.flatten_append]
  simp
theorem flat_le (Ls : List (List Str)) (i : Nat) : (Ls.take i).flatten.length ≤ Ls.flatten.length := by
  conv => rhs; rw [← List.take_append_drop i Ls]
  rw [List.flatten_append, List.length_append]
  omega
structure Rws (w : World) (H k : Nat) (A : Nat → Option Addr) (C : Nat → Nat) (Ls : List (List Str)) : Prop where
  len : Ls.length = k
  lt : H < w.heap.size
  cell : ∀ i, i < k → w.cell? ⟨H, i, none⟩ = some (.slice (A i) (Ls.getD i []).length (C i))
  ps : ∀ i, i < k → PS w (A i) (C i) (Ls.getD i [])
theorem Rws.below {w w' : World} {H k : Nat} {A : Nat → Option Addr} {C : Nat → Nat} {Ls : List (List Str)} (h : Rws w H k A C Ls) (hb : Below w.heap.size w w') : Rws w' H k A C Ls :=
  ⟨h.len, Nat.lt_of_lt_of_le h.lt hb.size, fun i hi => (hb.cell (p := ⟨H, i, none⟩) h.lt).trans (h.cell i hi), fun i hi => (h.ps i hi).below hb⟩
set_option maxRecDepth 20000 in
set_option maxHeartbeats 4000000 in
theorem concatS_any {w : World} {H k : Nat} {A : Nat → Option Addr} {C : Nat → Nat} {Ls : List (List Str)} (hR : Rws w H k A C Ls) (hk : k ≤ 100) (hn : Ls.flatten.length ≤ 2000) (cap : Nat) :
    Calls Tryz.prog 58 #[.slice (some ⟨H, 0, none⟩) k cap] w fun e w' => ∃ v, e = .returned v ∧ BS w w' w.heap.size v Ls.flatten := by
  obtain ⟨G, HG⟩ : ∃ G, Hid (w.heap.size = G) := ⟨_, rfl⟩
  have HR : Hid (∀ W, Below G w W → Rws W H k A C Ls) := hid (fun W hW => hR.below (by rw [HG.out]; exact hW))
  have HLN : Hid (Ls.length = k) := hid hR.len
  have HN := hid hn
  obtain ⟨M, HM⟩ : ∃ M : Nat, Hid (Ls.flatten.length = M) := ⟨_, rfl⟩
  have hM : M ≤ 2000 := by rw [← HM.out]; exact hn
  have CG : Hid (∀ W, Calls Tryz.prog 93 #[.slice none 0 0, .int .i64 (M : Nat)] W fun e w' => ∃ v, e = .returned v ∧ BS W w' W.heap.size v []) := hid (fun W => growS_any M hM W)
  rw [HG.out]
  clear hR hn
  go_enter Tryz.func58, Tryz.ntmps58
  go_wp2_with fail
  go_loopg [3, 11] k (fun g sv iv wr => ∃ (i s : Nat), i ≤ k ∧ g = k - i ∧ iv = .int .i64 i ∧ sv = .int .i64 s ∧ Hid ((Ls.take i).flatten.length = s) ∧ Hid (wr = w))
  case atStart => exact ⟨0, 0, by omega, rfl, rfl, rfl, hid (by simp), hid rfl⟩
  case round =>
    obtain ⟨i, s, hi, hkk, rfl, rfl, HS, HW⟩ := hrel
    have hww := HW.out.symm
    subst hww
    clear HW
    by_cases hlt : i < k
    · have hlti : (i : Int) < (k : Int) := by omega
      obtain ⟨ai, HAi⟩ : ∃ a, Hid (A i = a) := ⟨_, rfl⟩
      obtain ⟨ci, HCi⟩ : ∃ a, Hid (C i = a) := ⟨_, rfl⟩
      obtain ⟨n, HNi⟩ : ∃ a, Hid ((Ls.getD i []).length = a) := ⟨_, rfl⟩
      have hc : w.cell? ⟨H, i, none⟩ = some (.slice ai n ci) := by rw [← HAi.out, ← HCi.out, ← HNi.out]; exact (HR.out w (Below.refl _ _)).cell i hlt
      obtain ⟨s2, HS2⟩ : ∃ a, Hid ((Ls.take (i + 1)).flatten.length = a) := ⟨_, rfl⟩
      have hs2 : (s : Int) + (n : Int) = (s2 : Int) := by
        rw [← HS2.out, flat_snoc Ls i (by rw [HLN.out]; exact hlt), List.length_append, HS.out, HNi.out]
        omega
      have hs3 : s2 ≤ 2000 := by
        rw [← HS2.out]
        exact Nat.le_trans (flat_le Ls (i + 1)) HN.out
      have hs4 : ¬ (s2 : Int) < 0 := by omega
      go_wp2
      go_roundg (k - (i + 1))
      case measure => omega
      case rel => exact ⟨i + 1, s2, by omega, rfl, by go_num, rfl, HS2, hid rfl⟩
    · have hlti : ¬ (i : Int) < (k : Int) := by omega
      have hsM : s = M := by
        rw [← HS.out, ← HM.out, List.take_of_length_le (by rw [HLN.out]; omega)]
      clear HS
      subst hsM
      go_wp2_with fail
      refine (CG.out _).mono ?_
      rintro ev w1 ⟨v1, rfl, hb1⟩
      have HB1 : Hid (BS w w1 G v1 ((Ls.take 0).flatten)) := hid (by rw [← HG.out]; exact hb1)
      clear hb1
      go_wp2_with fail
      go_loopg [6, 27] k (fun g nv jv wq => ∃ (j : Nat) (v : Value), v = nv ∧ j ≤ k ∧ g = k - j ∧ jv = .int .i64 j ∧ Hid (BS w wq G v ((Ls.take j).flatten)))
      case atStart => exact ⟨0, _, rfl, by omega, rfl, rfl, HB1⟩
      case round =>
        obtain ⟨j, v, hv, hj, hk2, rfl, HBI⟩ := hrel
        subst hv
        by_cases hltj : j < k
        · have hltji : (j : Int) < (k : Int) := by omega
          obtain ⟨ai, HAi⟩ : ∃ a, Hid (A j = a) := ⟨_, rfl⟩
          obtain ⟨ci, HCi⟩ : ∃ a, Hid (C j = a) := ⟨_, rfl⟩
          obtain ⟨n, HNi⟩ : ∃ a, Hid ((Ls.getD j []).length = a) := ⟨_, rfl⟩
          have HRW := HR.out wr HBI.out.below
          have hc : wr.cell? ⟨H, j, none⟩ = some (.slice ai n ci) := by rw [← HAi.out, ← HCi.out, ← HNi.out]; exact HRW.cell j hltj
          have hPx : PS wr ai ci (Ls.getD j []) := by rw [← HAi.out, ← HCi.out]; exact HRW.ps j hltj
          have HPX := hid hPx
          have HTK : Hid ((Ls.take (j + 1)).flatten = (Ls.take j).flatten ++ Ls.getD j []) := hid (flat_snoc Ls j (by rw [HLN.out]; exact hltj))
          have HSUM : Hid (((Ls.take j).flatten).length + (Ls.getD j []).length ≤ 30000) := hid (by
            have h1 := flat_le Ls (j + 1)
            rw [HTK.out, List.length_append] at h1
            have := HN.out
            omega)
          clear HRW hPx
          go_wp2_with (first
            | (refine wpList_bx_sl (enc := encS) (k := 1) (d := []) rfl _ _ 63 9 und63s info9 rfl (by decide) (by decide) encS_one rfl G v ((Ls.take j).flatten) rfl HBI.out ai ci (Ls.getD j []) (by rw [HNi.out]; rfl) HPX.out (encS_len _) HSUM.out ?_; intro v2 w2 hb2 hg2; have HB2 : Hid (BS w w2 G v2 ((Ls.take (j + 1)).flatten)) := hid (by rw [HTK.out]; exact hb2); clear hb2 hg2)
            | fail)
          go_roundg (k - (j + 1))
          case measure => omega
          case rel => exact ⟨j + 1, _, rfl, by omega, rfl, by go_num, HB2⟩
        · have hltji : ¬ (j : Int) < (k : Int) := by omega
          have HF : Hid (BS w wr G v Ls.flatten) := hid (by
            have := HBI.out
            rw [List.take_of_length_le (by rw [HLN.out]; omega)] at this
            exact this)
          go_wp2
          go_ret
          exact ⟨_, rfl, HF.out⟩
theorem writeRows_any {w : World} {H k : Nat} {A : Nat → Option Addr} {C : Nat → Nat} {Ls : List (List Str)} (hR : Rws w H k A C Ls) (hk : k ≤ 100) (cap : Nat) (hn : Ls.flatten.length ≤ 900) (hlen : ∀ s ∈ Ls.flatten, s.length ≤ 990) (hd : Db w) : Calls Tryz.prog 31 #[.slice (some ⟨H, 0, none⟩) k cap] w (PostNu w.heap.size (pktL (Ls.flatten.map tx)) w) :=
  writeTexts_any _ Ls.flatten ((concatS_any hR hk (by omega) cap).mono (by
    rintro e w' ⟨v, rfl, hb⟩
    obtain ⟨a, c, rfl, hp, _⟩ := hb.px (d := []) (encS_len _)
    exact ⟨hb.below, a, c, rfl, hp⟩)) hn hlen hd
end Go.Proofs.YtijeogdnjeamaaaGreatDoor
namespace Go.Proofs.YtijeogdnjeamaaaGreatDoor
open Go.RowKit
set_option linter.unusedVariables false
set_option linter.unusedSimpArgs false
theorem own_keep {w w' : World} {row : Option Nat} {B e k n : Nat} {v : Value} {xs : List Value} (h : w.ownsRow B e k v n xs) (hg : w.grownBy w' row) (hr : ∀ j, row = some j → j < B) : w'.ownsRow B e k v n xs := by
  refine h.kept hg ?_
  cases hv : v.ownBlock with
  | none => exact .inl rfl
  | some j =>
    right
    intro e
    have h1 := (own_lt h j hv).1
    have h2 := hr j e.symm
    omega
theorem own_more {W : World} {B : Nat} {v : Value} {l : List Str} (h : W.ownsRow B 9 1 v l.length (l.flatMap encS)) (hle : B ≤ W.heap.size) (hn : l.length ≤ 20000) (s : Str) (u : ByteArray) (hu : ⟨s.toArray⟩ = u) (ty : TypeId) :
    ∃ v' W', (Builtin.append_ #[63, 63] ty #[v, .slice (some ⟨W.heap.size, 0, none⟩) 1 1]).run Tryz.prog (W.alloc (.cells #[.string u] 9)) = .ok v' W' ∧ W'.ownsRow B 9 1 v' (l ++ [s]).length ((l ++ [s]).flatMap encS) ∧ (W.alloc (.cells #[.string u] 9)).grownBy W' v.ownBlock := by
  obtain ⟨i, hi, hz0, hz1, hz2⟩ := info_parts info9
  have h' := own_keep h (World.grownBy_alloc W (.cells #[.string u] 9) none) (fun j e => by cases e)
  obtain ⟨v', W', hr, h1, h2, _⟩ := run_append_own_at (P := Tryz.prog) (W.alloc (.cells #[.string u] 9)) B 63 ty 9 i _ 1 16 und63s hi hz0 hz1 hz2 rfl (by decide) v _ _ h' ⟨W.heap.size, 0, none⟩ 1 1 [sV s] rfl (fun j x hj => by
    cases j with
    | zero =>
      cases hj
      rw [addr_add]
      have := cell_of_row (W.alloc (.cells #[.string u] 9)) W.heap.size 0 _ 9 (0, 0) (heap_alloc_new W _)
      rw [Nat.zero_add, this, ← hu]
      rfl
    | succ j => simp at hj) (fun x hx => by rw [List.mem_singleton.1 hx]; rfl) (by unfold maxLen; omega) (by omega) (by rw [size_alloc]; omega)
  refine ⟨v', W', hr, ?_, h2⟩
  rw [List.length_append, List.flatMap_append]
  exact h1
theorem there_off {w : World} {g n : Nat} {cs : Array Value} {t : TypeId} (h : w.heap[g]? = some (.cells cs t (0, 0))) (o : Nat) (hn : o + n ≤ cs.size) : w.there g o n := fun j hj => by
  refine ⟨?_, frozen_of_row w g (o + j) _ _ h⟩
  rw [cell_of_row w g (o + j) _ _ _ h, Array.getElem?_eq_getElem (by omega)]
  rfl
theorem row_oneC (x : List Int) : ∀ v ∈ row .u8 x, v.oneCell' = true := fun v hv => by obtain ⟨n, _, rfl⟩ := List.mem_map.1 hv; rfl
end Go.Proofs.YtijeogdnjeamaaaGreatDoor
namespace Go.Proofs.YtijeogdnjeamaaaGreatDoor.Nm
set_option linter.unusedVariables false
set_option linter.unusedSimpArgs false
def spl : List UInt8 → List (List UInt8)
  | [] => [[]]
  | c :: t => if c = 47 then [] :: spl t else match spl t with
    | [] => [[c]]
    | p :: ps => (c :: p) :: ps
theorem spl_ne : ∀ s, spl s ≠ []
  | [] => by simp [spl]
  | c :: t => by
    rw [spl]
    split
    · simp
    · split <;> simp
theorem spl_index : ∀ s : List UInt8, (Lib.index s [47] = -1 ∧ spl s = [s]) ∨ ∃ i : Nat, Lib.index s [47] = i ∧ i < s.length ∧ s = s.take i ++ 47 :: s.drop (i + 1) ∧ spl s = s.take i :: spl (s.drop (i + 1))
  | [] => .inl ⟨by decide, by simp [spl]⟩
  | c :: t => by
    by_cases hc : c = 47
    · subst hc
      refine .inr ⟨0, ?_, by simp, by simp, ?_⟩
      · rw [Lib.index]; simp [List.isPrefixOf]
      · rw [spl]; simp
    · have hp : ([47] : List UInt8).isPrefixOf (c :: t) = false := by
        simp [List.isPrefixOf]
        exact fun h => hc h.symm
      rcases spl_index t with ⟨h1, h2⟩ | ⟨i, h1, h2, h3, h4⟩
      · refine .inl ⟨?_, ?_⟩
        · rw [Lib.index, hp, h1]; rfl
        · rw [spl, if_neg hc, h2]
      · refine .inr ⟨i + 1, ?_, by simp; exact h2, ?_, ?_⟩
        · rw [Lib.index, hp, h1]
          have : ¬ ((i : Int) == -1) = true := by simp
          rw [if_neg (by decide), if_neg this]
          omega
        · simp
          exact h3
        · rw [spl, if_neg hc, h4]
          simp
theorem splitK_spl : ∀ (k : Nat) (s : List UInt8), (spl s).length ≤ k + 1 → Lib.splitK [47] 0 k s = spl s
  | 0, s, h => by
    rcases spl_index s with ⟨h1, h2⟩ | ⟨i, h1, h2, h3, h4⟩
    · rw [h2]; rfl
    · rw [h4, List.length_cons] at h
      have := List.length_pos_iff.2 (spl_ne (s.drop (i + 1)))
      omega
  | k + 1, s, h => by
    rcases spl_index s with ⟨h1, h2⟩ | ⟨i, h1, h2, h3, h4⟩
    · rw [Lib.splitK, h1, h2]; rfl
    · rw [h4] at h
      rw [Lib.splitK, h1, h4]
      have : ¬ ((i : Int) == -1) = true := by simp
      rw [if_neg this]
      simp only [Int.toNat_natCast, Nat.add_zero, List.length_cons, List.length_nil, Nat.zero_add]
      rw [splitK_spl k _ (by simp at h; omega)]
theorem count_spl : ∀ (f : Nat) (s : List UInt8), s.length + 1 ≤ f → (spl s).length = Lib.countFrom [47] f s + 1
  | 0, s, h => by omega
  | f + 1, s, h => by
    rcases spl_index s with ⟨h1, h2⟩ | ⟨i, h1, h2, h3, h4⟩
    · rw [Lib.countFrom, h1, h2]; rfl
    · rw [Lib.countFrom, h1, h4]
      have : ¬ ((i : Int) == -1) = true := by simp
      rw [if_neg this]
      simp only [Int.toNat_natCast, List.length_cons, List.length_nil, Nat.zero_add]
      have := count_spl f (s.drop (i + 1)) (by rw [List.length_drop]; omega)
      omega
theorem split_spl (s : List UInt8) : Lib.split s [47] = spl s := splitK_spl _ s (by rw [count_spl (s.length + 1) s (Nat.le_refl _)]; exact Nat.le_refl _)
def hasPair (a b : UInt8) : List UInt8 → Bool
  | x :: y :: t => (x == a && y == b) || hasPair a b (y :: t)
  | _ => false
theorem contains_pair (a b : UInt8) : ∀ s : List UInt8, Lib.contains s [a, b] = hasPair a b s
  | [] => by simp [Lib.contains, Lib.index, hasPair]
  | [x] => by simp [Lib.contains, Lib.index, hasPair, List.isPrefixOf]
  | x :: y :: t => by
    have ih := contains_pair a b (y :: t)
    rw [hasPair, ← ih, Lib.contains, Lib.contains, Lib.index]
    have hge := Lib.index_ge (y :: t) [a, b]
    by_cases h : ([a, b] : List UInt8).isPrefixOf (x :: y :: t) = true
    · rw [if_pos h]
      have : (x == a && y == b) = true := by
        simp [List.isPrefixOf] at h ⊢
        exact ⟨h.1.symm, h.2.symm⟩
      rw [this]
      simp
    · rw [if_neg h]
      have : (x == a && y == b) = false := by
        rw [Bool.eq_false_iff]
        intro h2
        apply h
        simp [List.isPrefixOf] at h2 ⊢
        exact ⟨h2.1.symm, h2.2.symm⟩
      rw [this, Bool.false_or]
      by_cases hm : Lib.index (y :: t) [a, b] = -1
      · rw [hm]; rfl
      · rw [if_neg (by simpa using hm)]
        rw [decide_eq_decide]
        omega
def partOk (p : List UInt8) : Bool := !p.isEmpty && !Lib.hasPrefix p [46] && !Lib.hasSuffix p [46, 108, 111, 99, 107]
def byteOk (c : UInt8) : Bool := decide (33 ≤ c.toNat) && decide (c.toNat ≤ 126) && !([126, 94, 58, 63, 42, 91, 92] : List UInt8).contains c
def dgo : List UInt8 → Option UInt8 → List UInt8 → Bool
  | cur, _, [] => partOk cur
  | cur, pv, c :: t => if c = 47 then partOk cur && dgo [] (some 47) t else byteOk c && !(c == 46 && pv == some 46) && !(c == 123 && pv == some 64) && dgo (cur ++ [c]) (some c) t
def splC (cur t : List UInt8) : List (List UInt8) := match spl t with
  | [] => [cur]
  | p :: ps => (cur ++ p) :: ps
theorem splC_nil (t : List UInt8) : splC [] t = spl t := by
  unfold splC
  split
  · rename_i h; exact absurd h (spl_ne t)
  · rename_i h; rw [h]; simp
theorem hasPair_cons (a b x : UInt8) (t : List UInt8) (y : UInt8) : hasPair a b (x :: y :: t) = ((x == a && y == b) || hasPair a b (y :: t)) := rfl
theorem pair_pv (a b : UInt8) (pv : Option UInt8) (c : UInt8) (t : List UInt8) : hasPair a b (pv.toList ++ c :: t) = ((c == b && pv == some a) || hasPair a b (c :: t)) := by
  cases pv with
  | none => simp
  | some x =>
    show hasPair a b (x :: c :: t) = _
    rw [hasPair_cons]
    congr 1
    rw [Bool.and_comm]
    simp
theorem dgo_iff : ∀ (t cur : List UInt8) (pv : Option UInt8), dgo cur pv t = ((splC cur t).all partOk && t.all byteOk && !hasPair 46 46 (pv.toList ++ t) && !hasPair 64 123 (pv.toList ++ t))
  | [], cur, pv => by
    cases pv <;> simp [dgo, splC, spl, hasPair]
  | c :: t, cur, pv => by
    rw [dgo, pair_pv, pair_pv]
    by_cases hc : c = 47
    · subst hc
      rw [if_pos rfl, dgo_iff t [] (some 47), splC_nil]
      have e1 : splC cur (47 :: t) = cur :: spl t := by simp [splC, spl]
      have e2 : byteOk 47 = true := by decide
      rw [e1, List.all_cons, List.all_cons, e2]
      simp only [Option.toList_some, List.singleton_append]
      have e3 : ((47 : UInt8) == 46) = false := by decide
      have e4 : ((47 : UInt8) == 123) = false := by decide
      rw [e3, e4]
      simp only [Bool.false_and, Bool.false_or, Bool.true_and]
      cases partOk cur <;> simp
    · rw [if_neg hc, dgo_iff t (cur ++ [c]) (some c)]
      have e1 : splC (cur ++ [c]) t = splC cur (c :: t) := by
        unfold splC
        rw [spl, if_neg hc]
        split
        · rename_i h; exact absurd h (spl_ne t)
        · rename_i h; simp
      rw [e1, List.all_cons]
      simp only [Option.toList_some, List.singleton_append]
      cases byteOk c <;> cases (splC cur (c :: t)).all partOk <;> cases (c == 46 && pv == some 46) <;> cases (c == 123 && pv == some 64) <;> simp
def docOk (s : List UInt8) : Bool := decide (s.length ≤ 60) && decide (6 ≤ s.length) && (s.take 5 == [114, 101, 102, 115, 47]) && !Lib.hasSuffix s [46] && dgo [] none s
def prgOk (s : List UInt8) : Bool := decide (s.length ≤ 60) && ((spl s).all partOk && ((spl s).headD [] == [114, 101, 102, 115]) && decide (1 < (spl s).length)) && s.all byteOk && !Lib.contains s [46, 46] && !Lib.contains s [64, 123] && !Lib.hasSuffix s [46]
theorem refs_iff (s : List UInt8) (hp : (spl s).all partOk = true) : (((spl s).headD [] == [114, 101, 102, 115]) && decide (1 < (spl s).length)) = (decide (6 ≤ s.length) && (s.take 5 == [114, 101, 102, 115, 47])) := by
  rw [Bool.eq_iff_iff]
  simp only [Bool.and_eq_true, beq_iff_eq, decide_eq_true_eq]
  constructor
  · rintro ⟨h1, h2⟩
    rcases spl_index s with ⟨_, e⟩ | ⟨i, _, hi, hs, e⟩
    · rw [e] at h2; simp at h2
    · rw [e] at h1 hp
      simp at h1
      rw [h1] at hs
      have hne : s.drop (i + 1) ≠ [] := by
        intro h
        rw [h] at hp
        simp [spl, partOk] at hp
      rw [hs]
      have := List.length_pos_iff.2 hne
      constructor
      · simp only [List.length_append, List.length_cons, List.length_nil]
        omega
      · simp
  · rintro ⟨h1, h2⟩
    have hs : s = [114, 101, 102, 115, 47] ++ s.drop 5 := by
      rw [← h2, List.take_append_drop]
    obtain ⟨t, ht⟩ : ∃ t, t = s.drop 5 := ⟨_, rfl⟩
    rw [← ht] at hs
    have e : spl s = [114, 101, 102, 115] :: spl t := by
      rw [hs]
      simp [spl]
    rw [e]
    have := List.length_pos_iff.2 (spl_ne t)
    refine ⟨by simp, by simp; omega⟩
theorem ok_same (s : List UInt8) : prgOk s = docOk s := by
  unfold prgOk docOk
  rw [dgo_iff, splC_nil, contains_pair, contains_pair]
  simp only [Option.toList_none, List.nil_append]
  cases hp : (spl s).all partOk with
  | false => simp
  | true =>
    have := refs_iff s hp
    rw [Bool.true_and, this]
    cases decide (s.length ≤ 60) <;> cases decide (6 ≤ s.length) <;> cases (s.take 5 == [114, 101, 102, 115, 47]) <;> cases s.all byteOk <;> cases hasPair 46 46 s <;> cases hasPair 64 123 s <;> cases Lib.hasSuffix s [46] <;> rfl
end Go.Proofs.YtijeogdnjeamaaaGreatDoor.Nm
