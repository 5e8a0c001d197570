/- 'end'. -/
import Derived.Test.YtbpdielmdhhdfaaGreatDoorPad
namespace Go.Proofs.YtbpdielmdhhdfaaGreatDoor
open Go.RowKit
set_option linter.unusedVariables false

theorem row_snoc (k : IntKind) (l : List Int) (x : Int) : row k (l ++ [x]) = row k l ++ [.int k x] := by simp [row]
theorem pad_iff (n j : Nat) (h : j ≤ pads n) : ((n + (1 + j) + 8) % 64 = 0) ↔ j = pads n := by unfold pads at *; omega
set_option maxRecDepth 20000 in
set_option maxHeartbeats 2000000 in
theorem end_any (n : Nat) (w : World) (hn : n ≤ 700000) :
    Calls Tryz.prog 116 #[.int .u64 n] w fun e w' => ∃ g cp, e = .returned (.slice (some ⟨g, 0, none⟩) (endOf n).length cp) ∧ Below w.heap.size w w' ∧ w.heap.size ≤ g ∧ g < w'.heap.size ∧ At w' g 0 (endOf n) ∧ (endOf n).length ≤ cp := by
  obtain ⟨i5, hi, hz0, hz1, hz2⟩ := info_parts Tryz.info5
  have HB0 : Hid (Below w.heap.size w (w.alloc (.cells #[.int .u8 128] 5))) := (Below.refl _ w).alloc (Nat.le_refl _) _
  have hp63 := pads_le n
  go_enter Tryz.func116, Tryz.ntmps116
  go_wp2
  go_loopg [3] (pads n) (fun g s wr => ∃ (j gb cp : Nat) (ls : List Int), j ≤ pads n ∧ g = pads n - j ∧ s = .slice (some ⟨gb, 0, none⟩) (1 + j : Nat) cp ∧ Hid (ls = 128 :: List.replicate j 0) ∧ wr.ownsRow w.heap.size 5 1 (.slice (some ⟨gb, 0, none⟩) (1 + j : Nat) cp) (1 + j) (row .u8 ls) ∧ Hid (Below w.heap.size w wr))
  case atStart => exact ⟨0, w.heap.size, 1, _, by omega, rfl, rfl, rfl, World.ownsRow_lit w #[.int .u8 128] 1 (Nat.le_refl _) (by unfold maxLen; omega) rfl, HB0⟩
  case round =>
    obtain ⟨j, gb, cp, ls, hj, hk, rfl, HLs, hown, HB⟩ := hrel
    by_cases hlt : j < pads n
    · have hc : ((n : Int) + (1 + j) + 8) % 64 ≠ 0 := by have := pad_iff n j hj; omega
      go_wp2_with (refine wpList_append_lies _ rfl _ _ _ rfl w.heap.size 5 i5 (.int .u8 0) 1 1 Tryz.underlying23 hi hz0 hz1 hz2 rfl (by omega) (.slice (some ⟨gb, 0, none⟩) (1 + j : Nat) cp) (1 + j) (row .u8 ls) rfl (by exact hown.alloc _) ⟨wr.heap.size, 0, none⟩ 1 1 [.int .u8 0] rfl rfl (by intro j u hj; match j, hj with | 0, hj => simp at hj; subst hj; simp [Addr.add]) (by intro u hu; simp at hu; subst hu; rfl) (by omega) (by unfold maxLen; omega) (by omega) (by have := HB.out.size; simp; omega) (wr.heap.size + 1) (by simp) ?_; intro g2 cp2 w3 hown1 hgrow hat hlt2)
      have HB2 : Hid (Below w.heap.size w w3) := below_step HB.out (Nat.le_refl _) (World.grownBy_alloc wr _ none) hgrow (fun k hk => (own_lt hown k hk).1)
      have HO : Hid (w3.ownsRow w.heap.size 5 1 (.slice (some ⟨g2, 0, none⟩) (1 + j + 1 : Nat) cp2) (1 + j + 1) (row .u8 (ls ++ [0]))) := hid (by rw [row_snoc]; exact hown1)
      clear hown1 hgrow hat hown
      go_wp2
      go_roundg (pads n - (j + 1))
      case measure => omega
      case rel => exact ⟨j + 1, g2, cp2, ls ++ [0], by omega, rfl, rfl, hid (by rw [HLs.out, List.replicate_succ', List.cons_append]), HO.out, HB2⟩
    · obtain rfl : j = pads n := by omega
      have hc : ((n : Int) + (1 + (pads n : Nat)) + 8) % 64 = 0 := by have := pad_iff n (pads n) (Nat.le_refl _); omega
      obtain ⟨q, HQ⟩ : ∃ q, Hid (q = 1 + pads n) := ⟨_, rfl⟩
      have hq64 : q ≤ 64 := by have := HQ.out; omega
      rw [← HQ.out] at hown
      have hc2 : ((n : Int) + q + 8) % 64 = 0 := by have := HQ.out; omega
      rw [← HQ.out]
      have HLq : Hid (ls = 128 :: List.replicate (pads n) 0) := HLs.out
      clear hc hlt hj hk
      go_wp2
      clear hc2
      go_loopg [3, 20] 8 (fun g s i wr => ∃ (j gb cp : Nat) (ls : List Int), j ≤ 8 ∧ g = 8 - j ∧ i = .int .i64 j ∧ s = .slice (some ⟨gb, 0, none⟩) (q + j : Nat) cp ∧ Hid (ls = 128 :: List.replicate (pads n) 0 ++ (List.range j).map (be8 (8 * n))) ∧ wr.ownsRow w.heap.size 5 1 (.slice (some ⟨gb, 0, none⟩) (q + j : Nat) cp) (q + j) (row .u8 ls) ∧ Hid (Below w.heap.size w wr))
      case atStart => exact ⟨0, gb, cp, ls, by omega, rfl, rfl, rfl, hid (by rw [HLq.out]; simp), hown, HB⟩
      case round =>
        clear hown HB
        obtain ⟨j, gb, cp, ls, hj, hk, rfl, rfl, HLs, hown, HB⟩ := hrel
        by_cases hlt : j < 8
        · obtain ⟨x, HX⟩ : ∃ x, Hid (x = be8 (8 * n) j) := ⟨_, rfl⟩
          have hx : 8 * (n : Int) / 2 ^ (8 * (7 - j)) % 256 = x := by rw [HX.out]; unfold be8; rw [Int.natCast_emod, Int.natCast_ediv, Int.natCast_mul, Int.natCast_pow]; rfl
          go_wp2_with (refine wpList_append_lies _ rfl _ _ _ rfl w.heap.size 5 i5 (.int .u8 0) 1 1 Tryz.underlying23 hi hz0 hz1 hz2 rfl (by omega) (.slice (some ⟨gb, 0, none⟩) (q + j : Nat) cp) (q + j) (row .u8 ls) rfl (by exact hown.alloc _) ⟨wr.heap.size, 0, none⟩ 1 1 [.int .u8 x] rfl rfl (by intro j u hj; match j, hj with | 0, hj => simp at hj; subst hj; simp [Addr.add]) (by intro u hu; simp at hu; subst hu; rfl) (by omega) (by unfold maxLen; omega) (by omega) (by have := HB.out.size; simp; omega) (wr.heap.size + 1) (by simp) ?_; intro g2 cp2 w3 hown1 hgrow hat hlt2)
          have HB2 : Hid (Below w.heap.size w w3) := below_step HB.out (Nat.le_refl _) (World.grownBy_alloc wr _ none) hgrow (fun k hk => (own_lt hown k hk).1)
          have HO : Hid (w3.ownsRow w.heap.size 5 1 (.slice (some ⟨g2, 0, none⟩) (q + j + 1 : Nat) cp2) (q + j + 1) (row .u8 (ls ++ [x]))) := hid (by rw [row_snoc]; exact hown1)
          clear hown1 hgrow hat hown hx
          go_wp2
          go_roundg (8 - (j + 1))
          case measure => omega
          case rel => exact ⟨j + 1, g2, cp2, ls ++ [x], by omega, rfl, by go_num, rfl, hid (by rw [HLs.out, HX.out, List.range_succ, List.map_append, List.append_assoc]; rfl), HO.out, HB2⟩
        · obtain rfl : j = 8 := by omega
          have HE : Hid (ls = endOf n) := hid (by rw [HLs.out]; rfl)
          have hel : (endOf n).length = q + 8 := by rw [endOf_len]; have := HQ.out; omega
          obtain ⟨g0, cp0, hform, hg0, hcp0⟩ := hown.form (by omega)
          have hlt3 := (own_lt hown gb rfl)
          have HAt : Hid (At wr gb 0 (endOf n)) := fun i hi => by
            rw [Nat.zero_add, hown.cellAt i (by omega), HE.out, row_at .u8 (endOf n) i hi]
          have hcp : q + 8 ≤ cp := by
            rcases hown.2 with ⟨_, h0⟩ | ⟨g, cap, cur, hv, _, _, h1, _⟩
            · omega
            · simp only [Value.slice.injEq] at hv; omega
          go_wp2
          go_ret
          exact ⟨gb, cp, by rw [hel]; rfl, HB.out, hlt3.1, hlt3.2, HAt.out, by rw [hel]; exact hcp⟩
end Go.Proofs.YtbpdielmdhhdfaaGreatDoor
