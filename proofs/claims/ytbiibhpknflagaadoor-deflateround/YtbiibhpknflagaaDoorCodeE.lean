/- 'bits.Mul' by one; 'slices.Repeat' of one number; 'fixedCode'. -/
import Derived.Test.YtbiibhpknflagaaDoorCodeD
namespace Go.Proofs.YtbiibhpknflagaaDoor
open Go.RowKit Plain
set_option linter.unusedVariables false

theorem and_low (n : Nat) (h : n ≤ 400) : bits .and .u64 (n : Int) 4294967295 = (n : Int) := by
  rw [show (4294967295 : Int) = ((4294967295 : Nat) : Int) from rfl, u64_and_nat n 4294967295 (by omega) (by omega), show (4294967295 : Nat) = 2 ^ 32 - 1 from rfl, Nat.and_two_pow_sub_one_eq_mod, Nat.mod_eq_of_lt (by omega)]

set_option maxRecDepth 20000 in
set_option maxHeartbeats 1000000 in
theorem mul64_one (n : Nat) (w : World) (h : n ≤ 400) :
    Calls Tryd.prog 82 #[.int .u64 1, .int .u64 n] w fun e w' => e = .returned (.tuple #[.int .u64 0, .int .u64 n]) ∧ w' = w := by
  have a1 : bits .and .u64 1 4294967295 = 1 := by decide
  have a0 : bits .and .u64 0 4294967295 = 0 := by decide
  have an := and_low n h
  have hd : (n : Int) / 4294967296 = 0 := by omega
  go_enter Tryd.func82, Tryd.ntmps82
  go_wp2
  go_ret2
  exact ⟨rfl, rfl⟩
set_option maxRecDepth 20000 in
set_option maxHeartbeats 1000000 in
theorem mul_one (n : Nat) (w : World) (h : n ≤ 400) :
    Calls Tryd.prog 76 #[.int .u64 1, .int .u64 n] w fun e w' => e = .returned (.tuple #[.int .u64 0, .int .u64 n]) ∧ w = w' := by
  go_enter Tryd.func76, Tryd.ntmps76
  go_wp2_with (go_at_call 82; refine (mul64_one n _ h).mono ?_; rintro e w' ⟨rfl, rfl⟩)
  go_ret2
  exact ⟨rfl, rfl⟩

/-- A row that is filled up to k. -/
def fill (n k x : Nat) : List Nat := List.replicate k x ++ List.replicate (n - k) 0
theorem fill_len (n k x : Nat) (h : k ≤ n) : (fill n k x).length = n := by simp [fill]; omega
theorem fill_get (n k x i : Nat) (h : i < k) : (fill n k x).getD i 0 = x := by
  unfold fill
  rw [List.getD_eq_getElem?_getD, List.getElem?_append_left (by simpa using h), List.getElem?_replicate, if_pos h]; rfl
theorem fill_step (n k m x : Nat) (h : k + m ≤ n) : splice (arr (fill n k x)) k (arr (List.replicate m x)) = arr (fill n (k + m) x) := by
  have e : ∀ a b c : Nat, b + c = n - k → splice (arr (fill n k x)) k (arr (List.replicate b x)) = arr (List.replicate k x ++ (List.replicate b x ++ List.replicate c 0)) := by
    intro a b c hbc
    unfold splice fill arr
    rw [← List.map_take, ← List.map_drop, ← List.map_append, ← List.map_append]
    congr 1
    rw [List.take_left' (by simp), List.length_map, List.length_replicate, List.drop_append, List.drop_eq_nil_of_le (by simp)]
    simp
    omega
  rw [e 0 m (n - k - m) (by omega)]
  unfold fill
  rw [← List.append_assoc, List.replicate_append_replicate, show n - k - m = n - (k + m) from by omega]
theorem fill_full (n x : Nat) : fill n n x = List.replicate n x := by simp [fill]
theorem Tryd.size3 : (Tryd.prog.info? 3).map (·.size) = some 1 := by kernel_rfl

set_option maxRecDepth 20000 in
set_option maxHeartbeats 2000000 in
theorem repeat1_any (b n x : Nat) (w : World) (hn : n ≤ 400) (hn1 : 1 ≤ n) (hb : b < w.heap.size) (hc : w.cell? ⟨b, 0, none⟩ = some (.int .i64 (x : Int))) :
    Calls Tryd.prog 58 #[.slice (some ⟨b, 0, none⟩) 1 1, .int .i64 n] w fun e w' => ∃ g, w.heap.size ≤ g ∧ e = .returned (.slice (some ⟨g, 0, none⟩) n n) ∧ Below w.heap.size w w' ∧ w'.heap[g]? = some (.cells (arr (List.replicate n x)).toArray 3 (0, 0)) := by
  obtain ⟨i3, hi, hz0, hz1, hz2⟩ := info_parts Tryd.info3
  have hwn : IntKind.u64.wrap (n : Int) = (n : Int) := by rw [IntKind.wrap_u64]; omega
  go_enter Tryd.func58, Tryd.ntmps58
  go_wp2_with (first | (go_at_call 76; refine (mul_one n _ hn).mono ?_; rintro e w' ⟨rfl, rfl⟩) | (at_make; refine wpList_make_full _ rfl _ _ 70 rfl w.heap.size 3 i3 (.int .i64 0) 1 Tryd.underlying70 hi hz0 hz1 _ _ _ _ n rfl rfl ?c1 ?c2 ?c3 ?c4 ?c5 ?_))
  case c1 => omega
  case c2 => omega
  case c3 => rw [hz2]; omega
  case c4 => unfold maxLen; omega
  case c5 => exact Nat.le_refl _
  · intro w2 hown hgrow
    have HB2 : Hid (Below w.heap.size w w2) := (Below.refl _ _).grown hgrow (Nat.le_refl _) (fun k h => by cases h)
    have HH : Hid (w2.heap[w.heap.size]? = some (.cells (arr (List.replicate n 0)).toArray 3 (0, 0))) := by
      show _ = _
      obtain ⟨_, ⟨h, _⟩ | ⟨g, cap', cur, hv, _, hg, _, _, hsz, htk⟩⟩ := hown
      · cases h
      · simp only [Value.slice.injEq, Option.some.injEq, Addr.mk.injEq] at hv
        obtain ⟨⟨rfl, _, _⟩, _, rfl⟩ := hv
        rw [hg]
        have e : cur.toList = arr (List.replicate n 0) := by
          rw [List.take_of_length_le (by simp; omega)] at htk
          rw [htk, toList_madeCells_one]
          simp [arr]
        have : cur = (arr (List.replicate n 0)).toArray := by rw [← e]
        rw [this]
    have hcp := run_copy_row (P := Tryd.prog) w2 70 70 3 3 w.heap.size 0 n n ⟨b, 0, none⟩ 1 1 _ 3 (arr (List.replicate 1 x)) Tryd.underlying70 Tryd.size3 HH.out (by rw [arr_len, List.length_replicate]; exact (Nat.min_eq_left hn1).symm)
      (by
        intro j v hj
        match j, hj with
        | 0, hj => simp [arr] at hj; subst hj; rw [addr_add]; exact (HB2.out.cell (p := ⟨b, 0 + 0, none⟩) hb).trans hc) (by simp [arr]; omega) (arr_one _)
    have hst : w2.setRow w.heap.size ((arr (List.replicate n 0)).toArray.toList.take 0 ++ arr (List.replicate 1 x) ++ (arr (List.replicate n 0)).toArray.toList.drop (0 + (arr (List.replicate 1 x)).length)).toArray = w2.setRow w.heap.size (arr (fill n 1 x)).toArray := by
      have := fill_step n 0 1 x (by omega)
      rw [← this]; unfold splice fill; simp
    rw [hst] at hcp
    have H3 : Hid ((w2.setRow w.heap.size (arr (fill n 1 x)).toArray).heap[w.heap.size]? = some (.cells (arr (fill n 1 x)).toArray 3 (0, 0))) := setRow_heap w2 _ _ _ 3 _ HH.out
    have HB3 : Hid (Below w.heap.size w (w2.setRow w.heap.size (arr (fill n 1 x)).toArray)) := below_setRow HB2.out (Nat.le_refl _) _
    obtain ⟨w3, HW3⟩ : ∃ w3, Hid (w3 = w2.setRow w.heap.size (arr (fill n 1 x)).toArray) := ⟨_, rfl⟩
    rw [← HW3.out] at hcp H3 HB3
    have hg1 : goInt ((arr (List.replicate 1 x)).length : Nat) = .int .i64 1 := by simp [arr, goInt]
    rw [hg1] at hcp
    clear hst HH HB2 hown hgrow hg1
    go_wp2
    go_loopw [8] (fun i wr => ∃ k : Nat, 1 ≤ k ∧ k ≤ n ∧ i = .int .i64 k ∧ Hid (wr.heap[w.heap.size]? = some (.cells (arr (fill n k x)).toArray 3 (0, 0))) ∧ Hid (Below w.heap.size w wr)) (fun i _ => n - (intOf i).toNat)
    case atStart => exact ⟨1, by omega, hn1, rfl, H3, HB3⟩
    case round =>
      obtain ⟨k, hk1, hk2, rfl, H, HB⟩ := hrel
      clear hcp H3 HB3 HW3
      by_cases hlt : k < n
      · obtain ⟨m, HM⟩ : ∃ m, Hid (m = Nat.min k (n - k)) := ⟨_, rfl⟩
        have hm1 : m ≤ k ∧ m ≤ n - k ∧ 1 ≤ m := by rw [HM.out, show Nat.min k (n - k) = min k (n - k) from rfl]; omega
        have hsrc : ∀ j v, (arr (List.replicate m x))[j]? = some v → wr.cell? ((⟨w.heap.size, 0, none⟩ : Addr).add j) = some v := by
          intro j v hj
          rw [addr_add, Nat.zero_add]
          by_cases hjm : j < m
          · have := row_cell H.out j (by rw [fill_len _ _ _ hk2]; omega)
            rw [this, fill_get n k x j (by omega)]
            rw [arr_at _ j (by simpa using hjm)] at hj
            simpa [hjm] using hj
          · rw [List.getElem?_eq_none (by rw [arr_len]; simp; omega)] at hj; cases hj
        have hkn : (k : Int) < n := by omega
        have hnk : ¬ n = k := by omega
        have hcp := run_copy_row (P := Tryd.prog) wr.drew 70 70 3 3 w.heap.size k (n - k) (n - k) ⟨w.heap.size, 0, none⟩ k n _ 3 (arr (List.replicate m x)) Tryd.underlying70 Tryd.size3 H.out (by rw [arr_len, List.length_replicate]; exact HM.out) hsrc
          (by rw [arr_len, List.length_replicate, List.size_toArray, arr_len, fill_len _ _ _ hk2]; omega) (arr_one _)
        have hst : (wr.drew).setRow w.heap.size ((arr (fill n k x)).toArray.toList.take k ++ arr (List.replicate m x) ++ (arr (fill n k x)).toArray.toList.drop (k + (arr (List.replicate m x)).length)).toArray = (wr.drew).setRow w.heap.size (arr (fill n (k + m) x)).toArray := by
          rw [← fill_step n k m x (by omega)]; unfold splice; simp
        rw [hst, arr_len, List.length_replicate] at hcp
        have H4 : Hid (((wr.drew).setRow w.heap.size (arr (fill n (k + m) x)).toArray).heap[w.heap.size]? = some (.cells (arr (fill n (k + m) x)).toArray 3 (0, 0))) := setRow_heap wr.drew _ _ _ 3 _ H.out
        have HB4 : Hid (Below w.heap.size w ((wr.drew).setRow w.heap.size (arr (fill n (k + m) x)).toArray)) := below_setRow HB.out.drew (Nat.le_refl _) _
        obtain ⟨w4, HW4⟩ : ∃ w4, Hid (w4 = (wr.drew).setRow w.heap.size (arr (fill n (k + m) x)).toArray) := ⟨_, rfl⟩
        rw [← HW4.out] at hcp H4 HB4
        have hgm : goInt ((m : Nat) : Int) = .int .i64 (m : Int) := rfl
        rw [hgm] at hcp
        clear hst hgm hsrc
        go_wp2
        go_region
        all_goals
          go_wp2
          go_roundw
          case rel => exact ⟨k + m, by omega, by omega, by go_num, H4, HB4⟩
          case measure => simp [intOf]; omega
      · obtain rfl : k = n := by omega
        go_wp2
        go_ret
        exact ⟨w.heap.size, Nat.le_refl _, rfl, HB.out, by rw [H.out, fill_full]⟩
end Go.Proofs.YtbiibhpknflagaaDoor
