/- 'countLengths', 'whole', 'bare': arrays of sixteen counts. -/
import Derived.Test.YtbiibhpknflagaaDoorSymA
import Derived.Deep.MidRow
namespace Go.Proofs.YtbiibhpknflagaaDoor
open Go.RowKit Plain
set_option linter.unusedVariables false

def arr (cs : List Nat) : List Value := cs.map fun (c : Nat) => .int .i64 (c : Int)
theorem arr_len (cs : List Nat) : (arr cs).length = cs.length := by simp [arr]
theorem arr_one (cs : List Nat) : ∀ v ∈ arr cs, v.oneCell' = true := by
  intro v hv; simp only [arr, List.mem_map] at hv; obtain ⟨c, _, rfl⟩ := hv; rfl
theorem arr_at (cs : List Nat) (i : Nat) (h : i < cs.length) : (arr cs)[i]? = some (.int .i64 (cs.getD i 0 : Nat)) := by
  simp [arr, h]
/-- Numbers that lie in a row. -/
def AtI (w : World) (b off : Nat) (zs : List Nat) : Prop := ∀ i, i < zs.length → w.cell? ⟨b, off + i, none⟩ = some (.int .i64 (zs.getD i 0 : Nat))

def bump (cs : List Nat) (n : Nat) : List Nat := if 0 < n then cs.set n (cs.getD n 0 + 1) else cs
def cntOf (lens : List Nat) : List Nat := lens.foldl bump (List.replicate 16 0)
theorem bump_len (cs : List Nat) (n : Nat) : (bump cs n).length = cs.length := by unfold bump; split <;> simp
theorem foldl_bump_len : ∀ (l cs : List Nat), (l.foldl bump cs).length = cs.length
  | [], _ => rfl
  | x :: l, cs => by rw [List.foldl_cons, foldl_bump_len l, bump_len]
theorem cntOf_len (l : List Nat) : (cntOf l).length = 16 := by unfold cntOf; rw [foldl_bump_len]; rfl
theorem cntOf_snoc (l : List Nat) (x : Nat) : cntOf (l ++ [x]) = bump (cntOf l) x := by simp [cntOf]
/-- The counts are counts. -/
theorem cnt_count : ∀ (l cs : List Nat) (n : Nat), 0 < n → n < cs.length → (l.foldl bump cs).getD n 0 = cs.getD n 0 + l.count n
  | [], _, _, _, _ => by simp
  | x :: l, cs, n, h0, hn => by
    rw [List.foldl_cons, cnt_count l _ n h0 (by rw [bump_len]; exact hn)]
    unfold bump
    by_cases hx : x = n
    · subst hx; rw [if_pos h0]; simp [hn]; omega
    · rw [List.count_cons_of_ne (by simpa using hx)]
      split
      · rw [List.getD_eq_getElem?_getD, List.getElem?_set_ne hx, ← List.getD_eq_getElem?_getD]
      · rfl
theorem cntOf_count (l : List Nat) (n : Nat) (h0 : 0 < n) (hn : n < 16) : (cntOf l).getD n 0 = l.count n := by
  unfold cntOf; rw [cnt_count l _ n h0 (by simpa using hn), List.getD_eq_getElem?_getD, List.getElem?_replicate]; split <;> simp
theorem cntOf_zero (l : List Nat) : (cntOf l).getD 0 0 = 0 := by
  have : ∀ (l cs : List Nat), cs.getD 0 0 = 0 → (l.foldl bump cs).getD 0 0 = 0 := by
    intro l
    induction l with
    | nil => intro cs h; exact h
    | cons x l ih =>
      intro cs h
      refine ih _ ?_
      unfold bump
      split
      · rw [List.getD_eq_getElem?_getD, List.getElem?_set_ne (by omega), ← List.getD_eq_getElem?_getD]; exact h
      · exact h
  exact this l _ rfl
theorem cntOf_le (l : List Nat) (n : Nat) : (cntOf l).getD n 0 ≤ l.length := by
  by_cases h0 : n = 0
  · subst h0; rw [cntOf_zero]; omega
  · by_cases hn : n < 16
    · rw [cntOf_count l n (by omega) hn]; exact List.count_le_length
    · rw [List.getD_eq_getElem?_getD, List.getElem?_eq_none (by rw [cntOf_len]; omega)]; simp
theorem take_snocN (zs : List Nat) (k : Nat) (h : k < zs.length) : zs.take (k + 1) = zs.take k ++ [zs.getD k 0] := by
  rw [List.take_succ_eq_append_getElem h]; simp [h]

theorem Tryd.info117 : (Tryd.prog.info? 117).map (·.size) = some 16 := by kernel_rfl
theorem Kept.of_below {S : Nat} {v : Value} {w w' : World} (h : Below w.heap.size w w') : Kept S v v w w' := ⟨h.os, h.tape, h.output, h.size, fun k hk _ _ => h.block k hk, .inl rfl⟩

theorem arr_set (cs : List Nat) (n c : Nat) : (arr cs).toArray.setIfInBounds n (.int .i64 (c : Int)) = (arr (cs.set n c)).toArray := by
  simp [arr, List.map_set]
theorem arr_zero : (arr (List.replicate 16 0)).toArray = #[.int .i64 0, .int .i64 0, .int .i64 0, .int .i64 0, .int .i64 0, .int .i64 0, .int .i64 0, .int .i64 0, .int .i64 0, .int .i64 0, .int .i64 0, .int .i64 0, .int .i64 0, .int .i64 0, .int .i64 0, .int .i64 0] := rfl
theorem row_cell {w : World} {g : Nat} {cs : List Nat} {t : TypeId} {fr : Nat × Nat} (h : w.heap[g]? = some (.cells (arr cs).toArray t fr)) (i : Nat) (hi : i < cs.length) : w.cell? ⟨g, i, none⟩ = some (.int .i64 (cs.getD i 0 : Nat)) := by
  rw [cell_of_row w g i _ t fr h]; simpa using arr_at cs i hi
theorem range_row {w : World} {g : Nat} {cs : List Value} {t : TypeId} {fr : Nat × Nat} (h : w.heap[g]? = some (.cells cs.toArray t fr)) : w.rangeAt g 0 cs := fun j v hv => by
  rw [Nat.zero_add, cell_of_row w g j _ t fr h]; simpa using hv
theorem there_row {w : World} {g n : Nat} {cs : List Nat} {t : TypeId} (h : w.heap[g]? = some (.cells (arr cs).toArray t (0, 0))) (hn : cs.length = n) : w.there g 0 n := fun j hj => by
  rw [Nat.zero_add]
  exact ⟨by rw [row_cell h j (by omega)]; rfl, frozen_of_row w g j _ t h⟩
theorem results_mid {P : Program} {fn : Func} {p : Tmp} {ty : TypeId} (h : fn.results = #[.cell p ty]) (tmps : Array Value) (w : World) (g : Nat) (cs : List Value) (d : TypeDesc)
    (hp : tmps.getD p undef = .pointer (some ⟨g, 0, none⟩)) (hc : w.rangeAt g 0 cs) (hu : P.underlying ty = some d) (hd : d.isRow = true) (hi : (P.info? ty).map (·.size) = some cs.length) :
    (results fn tmps).run P w = .ok (.agg cs.toArray) w := by
  have hp' : tmps[p]?.getD undef = .pointer (some ⟨g, 0, none⟩) := by simpa using hp
  simp [results, h, hp', asAddr, run_loadVar_mid w g 0 ty cs d hc hu hd hi]

set_option maxRecDepth 20000 in
set_option maxHeartbeats 1000000 in
theorem countLengths_any (b off cap : Nat) (lens : List Nat) (w : World) (hl : lens.length ≤ 400) (h15 : ∀ x ∈ lens, x ≤ 15) (hat : AtI w b off lens) (hb : b < w.heap.size) :
    Calls Tryd.prog 72 #[.slice (some ⟨b, off, none⟩) lens.length cap] w fun e w' => e = .returned (.agg (arr (cntOf lens)).toArray) ∧ Below w.heap.size w w' := by
  have hi2 : ∀ l : List Nat, l.length = 16 → (Tryd.prog.info? 117).map (·.size) = some (arr l).length := fun l h => by rw [arr_len, h]; exact Tryd.info117
  go_enter Tryd.func72, Tryd.ntmps72
  go_wp2
  go_loopw [8] (fun i wr => ∃ k : Nat, k ≤ lens.length ∧ i = .int .i64 k ∧ Hid (wr.heap[w.heap.size + 1]? = some (.cells (arr (cntOf (lens.take k))).toArray 117 (0, 0))) ∧ Hid (wr.heap[w.heap.size]? = some (.cells (arr (List.replicate 16 0)).toArray 117 (0, 0))) ∧ Hid (Below w.heap.size w wr)) (fun i _ => lens.length - (intOf i).toNat)
  case atStart =>
    refine ⟨0, by omega, rfl, ?_, ?_, ?_⟩
    · exact heap_alloc2_new w _ _
    · exact heap_alloc2_old w _ _
    · exact ((Below.refl _ _).alloc (Nat.le_refl _) _).alloc (by simp) _
  case round =>
    obtain ⟨k, hk, rfl, H3, H2, HB⟩ := hrel
    by_cases hlt : k < lens.length
    · have hcell : wr.cell? ⟨b, off + k, none⟩ = some (.int .i64 (lens.getD k 0 : Nat)) := (HB.out.cell (p := ⟨b, off + k, none⟩) hb).trans (hat k hlt)
      obtain ⟨x, HX⟩ : ∃ x, Hid (x = lens.getD k 0) := ⟨_, rfl⟩
      rw [← HX.out] at hcell
      have hx15 : x ≤ 15 := by rw [HX.out, List.getD_eq_getElem?_getD, List.getElem?_eq_getElem hlt]; exact h15 _ (List.getElem_mem hlt)
      have hs := take_snocN lens k hlt
      rw [← HX.out] at hs
      have HC : Hid (cntOf (lens.take (k + 1)) = bump (cntOf (lens.take k)) x) := by show _ = _; rw [hs, cntOf_snoc]
      clear hs
      by_cases h0 : 0 < x
      · have hc3 := row_cell H3.out x (by rw [cntOf_len]; omega)
        have hf3 := frozen_of_row wr (w.heap.size + 1) x _ 117 H3.out
        have hcl := cntOf_le (lens.take k) x
        have htl : (lens.take k).length ≤ k := List.length_take_le _ _
        obtain ⟨c, HCc⟩ : ∃ c, Hid (c = (cntOf (lens.take k)).getD x 0) := ⟨_, rfl⟩
        rw [← HCc.out] at hc3 hcl
        go_wp2
        go_roundw
        case rel =>
          refine ⟨k + 1, by omega, by go_num, ?_, ?_, HB.out.setCell (by simp) _⟩
          · show _ = _
            rw [heap_setCell_same wr _ _ _ _ _ H3.out, HC.out]
            unfold bump
            rw [if_pos h0, ← HCc.out, ← arr_set]; rfl
          · show _ = _
            rw [heap_setCell_other wr _ _ _ (by simp)]; exact H2.out
        case measure => simp [intOf]; omega
      · obtain rfl : x = 0 := by omega
        go_wp2
        go_roundw
        case rel =>
          refine ⟨k + 1, by omega, by go_num, ?_, H2, HB⟩
          show _ = _
          rw [HC.out]; unfold bump; rw [if_neg (by omega)]; exact H3.out
        case measure => simp [intOf]; omega
    · obtain rfl : k = lens.length := by omega
      rw [List.take_length] at H3
      go_wp2_with (first | refine wpList_load_mid rfl 117 _ rfl (w.heap.size + 1) 0 rfl (arr (cntOf lens)) _ (range_row H3.out) Tryd.underlying117 rfl (hi2 _ (cntOf_len _)) ?_ | refine wpList_store_mid rfl 117 _ _ rfl w.heap.size 0 (arr (cntOf lens)).toArray rfl rfl ?t1 ?t2 ?t3 ?_)
      case t1 => rw [show (arr (cntOf lens)).toArray.size = 16 from by rw [List.size_toArray, arr_len, cntOf_len]]; exact there_row H2.out (by simp)
      case t2 => rw [List.size_toArray]; exact hi2 _ (cntOf_len _)
      case t3 => exact all_oneCell_toArray (arr_one _)
      · refine bodyPost_ret (v := .agg (arr (cntOf lens)).toArray) (results_mid Tryd.results72 _ _ w.heap.size _ _ rfl (World.rangeAt_setCells_same wr w.heap.size 0 _ ?_) Tryd.underlying117 rfl (hi2 _ (cntOf_len _))) rfl ⟨rfl, below_setCells (Nat.le_refl _) _ _ _ _ HB.out⟩
        rw [arr_len, cntOf_len]; exact there_row H2.out (by simp)

/-- How much is free behind length n: of 2 to the power of n. -/
def free (cs : List Nat) : Nat → Int
  | 0 => 1
  | n + 1 => 2 * free cs n - cs.getD (n + 1) 0
/-- As the program tells whether a code is whole. -/
def wholeB (cs : List Nat) : Bool := (List.range 16).all (fun n => decide (0 ≤ free cs n)) && free cs 15 == 0
theorem free_bd (cs : List Nat) (hc : ∀ i, cs.getD i 0 ≤ 400) : ∀ n, n ≤ 15 → free cs n ≤ 32768 ∧ -400 * 32768 ≤ free cs n := by
  have key : ∀ n, free cs n ≤ 2 ^ n ∧ -400 * (2 ^ n - 1) ≤ free cs n := by
    intro n
    induction n with
    | zero => simp [free]
    | succ n ih =>
      have := hc (n + 1)
      have e : (2 : Int) ^ (n + 1) = 2 * 2 ^ n := by rw [Int.pow_succ]; omega
      rw [free, e]; omega
  intro n hn
  have h2 : (2 : Int) ^ n ≤ 32768 := by
    have := Nat.pow_le_pow_right (n := 2) (by omega) hn
    have e : ((2 ^ n : Nat) : Int) = 2 ^ n := by simp
    rw [← e]; omega
  have h3 : (0 : Int) < 2 ^ n := Int.pow_pos (by omega)
  have := key n
  omega

set_option maxRecDepth 20000 in
set_option maxHeartbeats 1000000 in
theorem whole_any (cs : List Nat) (w : World) (hl : cs.length = 16) (hc : ∀ i, cs.getD i 0 ≤ 400) :
    Calls Tryd.prog 73 #[.agg (arr cs).toArray] w fun e w' => e = .returned (.bool (wholeB cs)) ∧ Below w.heap.size w w' := by
  have hcell : ∀ i, i < 16 → (w.alloc (.cells (arr cs).toArray 117)).cell? ⟨w.heap.size, i, none⟩ = some (.int .i64 (cs.getD i 0 : Nat)) := fun i hi => row_cell (heap_alloc_new w _) i (by omega)
  have HB : Hid (Below w.heap.size w (w.alloc (.cells (arr cs).toArray 117))) := (Below.refl _ _).alloc (Nat.le_refl _) _
  go_enter Tryd.func73, Tryd.ntmps73
  go_wp2
  go_loop [3, 4] (fun f i => ∃ (n : Nat) (x : Int), 1 ≤ n ∧ n ≤ 16 ∧ i = .int .i64 n ∧ f = .int .i64 x ∧ Hid (x = free cs (n - 1)) ∧ ∀ m, m < n → 0 ≤ free cs m) (fun _ i => 16 - (intOf i).toNat)
  case atStart => exact ⟨1, 1, by omega, by omega, rfl, rfl, rfl, fun m hm => by rw [show m = 0 from by omega]; simp [free]⟩
  case round =>
    obtain ⟨n, x, hn1, hn2, rfl, rfl, HX, hall⟩ := hrel
    have hxb := free_bd cs hc (n - 1) (by omega)
    rw [← HX.out] at hxb
    by_cases hn : n = 16
    · subst hn
      have e : wholeB cs = (x == 0) := by
        unfold wholeB
        rw [show (List.range 16).all (fun n => decide (0 ≤ free cs n)) = true from by simp only [List.all_eq_true, List.mem_range, decide_eq_true_eq]; exact hall, HX.out]; rfl
      have HE : Hid (wholeB cs = (x == 0)) := e
      clear hall e
      go_wp2
      go_ret
      exact ⟨by rw [HE.out]; rfl, HB.out⟩
    · have hle' : (n : Int) ≤ 15 := by omega
      have hcn := hcell n (by omega)
      have hb := hc n
      obtain ⟨c, HC⟩ : ∃ c, Hid (c = cs.getD n 0) := ⟨_, rfl⟩
      rw [← HC.out] at hcn hb
      have HF : Hid (2 * x - c = free cs n) := by show _ = _; rw [show n = (n - 1) + 1 from by omega, free, ← HX.out, show n - 1 + 1 = n from by omega, ← HC.out]
      by_cases hneg : 2 * x - c < 0
      · have e : wholeB cs = false := by
          unfold wholeB
          rw [show (List.range 16).all (fun n => decide (0 ≤ free cs n)) = false from by
            rw [List.all_eq_false]; exact ⟨n, by simp; omega, by rw [← HF.out]; simp; omega⟩]; rfl
        have HE : Hid (wholeB cs = false) := e
        clear hall hcell e
        go_wp2
        go_ret
        exact ⟨by rw [HE.out]; rfl, HB.out⟩
      · have hall' : ∀ m, m < n + 1 → 0 ≤ free cs m := fun m hm => by
          by_cases e : m = n
          · rw [e, ← HF.out]; omega
          · exact hall m (by omega)
        have HA : Hid (∀ m, m < n + 1 → 0 ≤ free cs m) := hall'
        clear hall hall' hcell
        go_wp2
        go_round
        case rel => exact ⟨n + 1, 2 * x - c, by omega, by omega, by go_num, rfl, by show _ = _; rw [HF.out]; rfl, HA.out⟩
        case measure => simp [intOf]; omega

/-- As the program tells whether a code is bare. -/
def bareB (cs : List Nat) : Bool := cs.sum == 0 || (cs.sum == 1 && cs.getD 1 0 == 1)
theorem index_arr16 (a0 a1 a2 a3 a4 a5 a6 a7 a8 a9 a10 a11 a12 a13 a14 a15 : Nat) (k : Nat) (w : World) (h : k < 16) : (Instr.index 117 (.agg (arr [a0, a1, a2, a3, a4, a5, a6, a7, a8, a9, a10, a11, a12, a13, a14, a15]).toArray) (.int .i64 k)).run Tryd.prog w = .ok (.int .i64 ([a0, a1, a2, a3, a4, a5, a6, a7, a8, a9, a10, a11, a12, a13, a14, a15].getD k 0 : Nat)) w := by
  have hk : k = 0 ∨ k = 1 ∨ k = 2 ∨ k = 3 ∨ k = 4 ∨ k = 5 ∨ k = 6 ∨ k = 7 ∨ k = 8 ∨ k = 9 ∨ k = 10 ∨ k = 11 ∨ k = 12 ∨ k = 13 ∨ k = 14 ∨ k = 15 := by omega
  rcases hk with rfl | rfl | rfl | rfl | rfl | rfl | rfl | rfl | rfl | rfl | rfl | rfl | rfl | rfl | rfl | rfl <;> (show _ = _; kernel_rfl)
theorem index_arr (cs : List Nat) (k : Nat) (w : World) (h : k < 16) (hl : cs.length = 16) : (Instr.index 117 (.agg (arr cs).toArray) (.int .i64 k)).run Tryd.prog w = .ok (.int .i64 (cs.getD k 0 : Nat)) w := by
  match cs, hl with
  | [a0, a1, a2, a3, a4, a5, a6, a7, a8, a9, a10, a11, a12, a13, a14, a15], _ => exact index_arr16 a0 a1 a2 a3 a4 a5 a6 a7 a8 a9 a10 a11 a12 a13 a14 a15 k w h
theorem sum_take_le (cs : List Nat) (hc : ∀ i, cs.getD i 0 ≤ 400) (k : Nat) : (cs.take k).sum ≤ 400 * k := by
  induction k with
  | zero => simp
  | succ k ih =>
    by_cases h : k < cs.length
    · rw [take_snocN cs k h, List.sum_append]; have := hc k; simp at *; omega
    · rw [List.take_of_length_le (by omega)]; rw [List.take_of_length_le (by omega)] at ih; omega

set_option maxRecDepth 20000 in
set_option maxHeartbeats 1000000 in
theorem bare_any (cs : List Nat) (w : World) (hl : cs.length = 16) (hc : ∀ i, cs.getD i 0 ≤ 400) :
    Calls Tryd.prog 78 #[.agg (arr cs).toArray] w fun e w' => e = .returned (.bool (bareB cs)) ∧ Below w.heap.size w w' := by
  have hi2 : (Tryd.prog.info? 117).map (·.size) = some (arr cs).length := by rw [arr_len, hl]; exact Tryd.info117
  have HR : Hid ((w.alloc (.cells (arr cs).toArray 117)).rangeAt w.heap.size 0 (arr cs)) := range_row (heap_alloc_new w _)
  have hcell : (w.alloc (.cells (arr cs).toArray 117)).cell? ⟨w.heap.size, 1, none⟩ = some (.int .i64 (cs.getD 1 0 : Nat)) := row_cell (heap_alloc_new w _) 1 (by omega)
  have HB : Hid (Below w.heap.size w (w.alloc (.cells (arr cs).toArray 117))) := (Below.refl _ _).alloc (Nat.le_refl _) _
  go_enter Tryd.func78, Tryd.ntmps78
  go_wp2_with (refine wpList_load_mid rfl 117 _ rfl w.heap.size 0 rfl (arr cs) _ HR.out Tryd.underlying117 rfl hi2 ?_)
  go_loop [3, 7] (fun f i => ∃ (n x : Nat), n ≤ 16 ∧ i = .int .i64 n ∧ f = .int .i64 x ∧ Hid (x = (cs.take n).sum)) (fun _ i => 16 - (intOf i).toNat)
  case atStart => exact ⟨0, 0, by omega, rfl, rfl, by simp [Hid]⟩
  case round =>
    obtain ⟨n, x, hn2, rfl, rfl, HX⟩ := hrel
    have hxb := sum_take_le cs hc n
    rw [← HX.out] at hxb
    by_cases hn : n = 16
    · subst hn
      have hs : cs.sum = x := by rw [HX.out, List.take_of_length_le (by omega)]
      have e : bareB cs = (((x : Int) == 0) || (((x : Int) == 1) && (((cs.getD 1 0 : Nat) : Int) == 1))) := by
        unfold bareB; rw [hs, Bool.eq_iff_iff]; simp; omega
      obtain ⟨c, HC⟩ : ∃ c, Hid (c = cs.getD 1 0) := ⟨_, rfl⟩
      rw [← HC.out] at hcell e
      have HE : Hid (bareB cs = _) := e
      clear e hs
      by_cases h0 : x = 0
      · subst h0
        go_wp2
        go_ret
        exact ⟨by rw [HE.out]; rfl, HB.out⟩
      · have h0' : ((x : Int) == 0) = false := by simp; omega
        by_cases h1 : x = 1
        · subst h1
          go_wp2
          go_ret
          exact ⟨by rw [HE.out]; rfl, HB.out⟩
        · have h1' : ((x : Int) == 1) = false := by simp; omega
          go_wp2
          go_ret
          exact ⟨by rw [HE.out, h0', h1']; rfl, HB.out⟩
    · have hix := index_arr cs n (w.alloc (.cells (arr cs).toArray 117)) (by omega) hl
      have hb := hc n
      obtain ⟨c, HC⟩ : ∃ c, Hid (c = cs.getD n 0) := ⟨_, rfl⟩
      rw [← HC.out] at hix hb
      go_wp2
      go_round
      case rel => exact ⟨n + 1, x + c, by omega, by go_num, by go_num, by show _ = _; rw [take_snocN cs n (by omega), List.sum_append, ← HX.out, ← HC.out]; simp⟩
      case measure => simp [intOf]; omega
end Go.Proofs.YtbiibhpknflagaaDoor
