/- 'slices.Grow' of nothing, 'slices.Concat' of two rows of ids. -/
import Derived.Test.YtjgjeedablgmeaaDoorGrH
import Derived.Lib.AppendZeros
namespace Go.Proofs.YtjgjeedablgmeaaDoor
open Go.RowKit
set_option linter.unusedVariables false
set_option linter.unusedSimpArgs false
set_option maxRecDepth 20000 in
theorem grow_zero (w : World) : Calls Tryd.prog 44 #[.slice none 0 0, .int .i64 0] w fun e w' => ∃ v, e = .returned v ∧ Bi 42 w w' w.heap.size v [] := by
  have HB : Hid (Bi 42 w w w.heap.size (.slice none 0 0) []) := hid (bx_nil 42 w _ (Nat.le_refl _))
  go_enter Tryd.func44, Tryd.ntmps44
  go_wp2
  go_ret
  exact ⟨_, rfl, HB.out⟩
set_option maxRecDepth 20000 in
set_option maxHeartbeats 1000000 in
theorem grow_some (n : Nat) (h1 : 1 ≤ n) (hn : n ≤ 1000) (w : World) : Calls Tryd.prog 44 #[.slice none 0 0, .int .i64 n] w fun e w' => ∃ v, e = .returned v ∧ Bi 42 w w' w.heap.size v [] := by
  obtain ⟨i, hi, hz0, hz1, hz2⟩ := info_parts Tryd.info42
  have hr := fun ty w => Lib.run_append_nil_zeros (P := Tryd.prog) w 32 3 ty 42 i (.agg (row .u8 z20).toArray) .i64 .i64 Tryd.underlying32 Tryd.underlying3 hi hz0 n h1 (by omega) (by omega) (by rw [hz2]; omega)
  have hc := grownCap_ge w n 0 42
  have hcm := grownCap_le_maxLen w n 0 42 (by unfold maxLen; omega)
  obtain ⟨cp, HC⟩ : ∃ cp, Hid (grownCap w n 0 42 = cp) := ⟨_, rfl⟩
  obtain ⟨R, HR⟩ : ∃ R : Array Value, Hid ((Builtin.zeroCells (Value.agg (row .u8 z20).toArray).cells n ++ Builtin.zeroCells (Value.agg (row .u8 z20).toArray).cells (cp - n)) = R) := ⟨_, rfl⟩
  have hr1 := hr 32 w
  rw [HC.out] at hr1 hc hcm
  rw [HR.out] at hr1
  have HRS : Hid (R.size = cp * 20) := hid (by
    rw [← HR.out]
    have hz : ∀ k, (Builtin.zeroCells (Value.agg (row .u8 z20).toArray).cells k).size = k * 20 := fun k => by
      simp [Builtin.zeroCells, Value.cells, row, z20]
    rw [Array.size_append, hz, hz, ← Nat.add_mul]
    congr 1
    omega)
  have hn0 : ¬ (n : Int) < 0 := by omega
  have hn1 : (0 : Int) < (n : Int) := by omega
  obtain ⟨G, HG⟩ : ∃ G, Hid (w.heap.size = G) := ⟨_, rfl⟩
  obtain ⟨w1, HW1⟩ : ∃ w1, Hid (w.drew.alloc (.cells R 42) = w1) := ⟨_, rfl⟩
  have HBI : Hid (Bi 42 w w1 G (.slice (some ⟨G, 0, none⟩) 0 cp) []) := hid (by
    rw [← HW1.out, ← HG.out]
    have hb : Below w.heap.size w (w.drew.alloc (.cells R 42)) := (below_drewH (Below.refl _ w) 1).alloc (Nat.le_refl _) _
    exact ⟨hb, ⟨rfl, .inr ⟨_, cp, R, rfl, Nat.le_refl _, heap_alloc_new w.drew _, Nat.zero_le _, hcm, HRS.out, by simp⟩⟩, hb.size⟩)
  rw [HW1.out, HG.out] at hr1
  rw [HG.out]
  clear hr hcm
  go_enter Tryd.func44, Tryd.ntmps44
  go_wp2_with (first
    | (at_builtin; refine Lib.wpList_append_run _ rfl _ _ 32 3 rfl _ _ rfl rfl _ _ hr1 ?_)
    | fail)
  go_ret
  exact ⟨_, rfl, HBI.out⟩
theorem grow_any (n : Nat) (hn : n ≤ 1000) (w : World) : Calls Tryd.prog 44 #[.slice none 0 0, .int .i64 n] w fun e w' => ∃ v, e = .returned v ∧ Bi 42 w w' w.heap.size v [] := by
  by_cases h : n = 0
  · subst h; exact grow_zero w
  · exact grow_some n (by omega) hn w
/-- What the first so many of two rows hold. -/
def pr2 (A B : List (List Int)) (i : Nat) : List (List Int) := if i = 0 then [] else if i = 1 then A else A ++ B
set_option maxRecDepth 20000 in
set_option maxHeartbeats 4000000 in
theorem concat_any (H ac bc : Nat) (aa ba : Option Addr) (A B : List (List Int)) (w : World) (h0 : w.cell? ⟨H, 0, none⟩ = some (.slice aa A.length ac)) (h1 : w.cell? ⟨H, 1, none⟩ = some (.slice ba B.length bc)) (hH : H < w.heap.size)
    (hA : Pa w aa ac A) (hB : Pa w ba bc B) (hw : ∀ y ∈ A ++ B, IdW y) (hn : A.length + B.length ≤ 400) :
    Calls Tryd.prog 26 #[.slice (some ⟨H, 0, none⟩) 2 2] w fun e w' => ∃ v, e = .returned v ∧ Bi 42 w w' w.heap.size v (A ++ B) := by
  obtain ⟨na, HNA⟩ : ∃ n, Hid (A.length = n) := ⟨_, rfl⟩
  obtain ⟨nb, HNB⟩ : ∃ n, Hid (B.length = n) := ⟨_, rfl⟩
  obtain ⟨G, HG⟩ : ∃ G, Hid (w.heap.size = G) := ⟨_, rfl⟩
  have hnn : na + nb ≤ 400 := by rw [← HNA.out, ← HNB.out]; exact hn
  have HC0 : Hid (∀ W, Below G w W → W.cell? ⟨H, 0, none⟩ = some (.slice aa na ac)) := fun W hW => by rw [← HNA.out]; exact (hW.cell (p := ⟨H, 0, none⟩) (by rw [← HG.out]; exact hH)).trans h0
  have HC1 : Hid (∀ W, Below G w W → W.cell? ⟨H, 1, none⟩ = some (.slice ba nb bc)) := fun W hW => by rw [← HNB.out]; exact (hW.cell (p := ⟨H, 1, none⟩) (by rw [← HG.out]; exact hH)).trans h1
  have HPA : Hid (∀ W, Below G w W → Pa W aa ac A) := fun W hW => hA.below (by rw [HG.out]; exact hW)
  have HPB : Hid (∀ W, Below G w W → Pa W ba bc B) := fun W hW => hB.below (by rw [HG.out]; exact hW)
  have HW0 : Hid (∀ y ∈ A, (row .u8 y).length = 20) := fun y hy => by rw [row_len]; exact (hw y (by simp [hy])).1
  have HW1 : Hid (∀ y ∈ B, (row .u8 y).length = 20) := fun y hy => by rw [row_len]; exact (hw y (by simp [hy])).1
  obtain ⟨M, HM⟩ : ∃ M : Nat, Hid (na + nb = M) := ⟨_, rfl⟩
  have CG : Hid (∀ W, Calls Tryd.prog 44 #[.slice none 0 0, .int .i64 (M : Nat)] W fun e w' => ∃ v, e = .returned v ∧ Bi 42 W w' W.heap.size v []) := fun W => grow_any M (by have := HM.out; omega) W
  have hM : M ≤ 400 := by have := HM.out; omega
  rw [HG.out]
  clear h0 h1 hA hB hw hn
  go_enter Tryd.func26, Tryd.ntmps26
  go_wp2_with fail
  go_loopg [3, 11] 2 (fun g sv iv wr => ∃ i : Nat, i ≤ 2 ∧ g = 2 - i ∧ iv = .int .i64 i ∧ sv = .int .i64 (pr2 A B i).length ∧ Hid (wr = w))
  case atStart => exact ⟨0, by omega, rfl, rfl, rfl, hid rfl⟩
  case round =>
    obtain ⟨i, hi, hk, rfl, rfl, HW⟩ := hrel
    have hww := HW.out.symm
    subst hww
    clear HW
    have e3 : i = 0 ∨ i = 1 ∨ i = 2 := by omega
    have c0 := HC0.out w (Below.refl _ _)
    have c1 := HC1.out w (Below.refl _ _)
    have hnai : ¬ (na : Int) < 0 := by omega
    rcases e3 with rfl | rfl | rfl
    · have el : (pr2 A B 0).length = 0 := rfl
      rw [el]
      go_wp2
      go_roundg 1
      case measure => omega
      case rel => exact ⟨1, by omega, rfl, rfl, by rw [show (pr2 A B 1).length = na from HNA.out], hid rfl⟩
    · have el : (pr2 A B 1).length = na := HNA.out
      rw [el]
      have hs1 : (na : Int) + (nb : Int) = (M : Int) := by have := HM.out; omega
      have hs2 : ¬ (M : Int) < 0 := by omega
      go_wp2
      go_roundg 0
      case measure => omega
      case rel => exact ⟨2, by omega, rfl, rfl, by rw [show (pr2 A B 2).length = M by simp [pr2, HNA.out, HNB.out, HM.out]], hid rfl⟩
    · have el : (pr2 A B 2).length = M := by simp [pr2, HNA.out, HNB.out, HM.out]
      rw [el]
      go_wp2_with fail
      refine (CG.out _).mono ?_
      rintro ev w1 ⟨v1, rfl, hb1⟩
      have HB1 : Hid (Bi 42 w w1 G v1 (pr2 A B 0)) := hid (by rw [← HG.out]; exact hb1)
      clear hb1
      go_wp2_with fail
      clear c0 c1
      go_loopg [6, 27] 2 (fun g nv jv wq => ∃ (j : Nat) (v : Value), v = nv ∧ j ≤ 2 ∧ g = 2 - j ∧ jv = .int .i64 j ∧ Hid (Bi 42 w wq G v (pr2 A B j)))
      case atStart => exact ⟨0, _, rfl, by omega, rfl, rfl, HB1⟩
      case round =>
        obtain ⟨j, v, hv, hj, hk2, rfl, HBI⟩ := hrel
        subst hv
        have e4 : j = 0 ∨ j = 1 ∨ j = 2 := by omega
        have c0 := HC0.out wr HBI.out.below
        have c1 := HC1.out wr HBI.out.below
        rcases e4 with rfl | rfl | rfl
        · have hPx := HPA.out wr HBI.out.below
          go_wp2_with (first
            | (refine wpList_bx_sl (d := []) rfl _ _ 32 42 Tryd.underlying32 Tryd.info42 rfl (by decide) (by decide) (fun z => row_one _ z) rfl G _ _ rfl HBI.out aa ac A (by rw [HNA.out]; rfl) hPx HW0.out (by simp [pr2, HNA.out]; omega) ?_; intro v2 w2 hb2 hg2; have HB2 : Hid (Bi 42 w w2 G v2 (pr2 A B 1)) := hid (by have := hb2; rw [show pr2 A B 0 = [] from rfl, List.nil_append] at this; exact this); clear hb2 hg2)
            | fail)
          go_roundg 1
          case measure => omega
          case rel => exact ⟨1, _, rfl, by omega, rfl, rfl, HB2⟩
        · have hPi := HPB.out wr HBI.out.below
          go_wp2_with (first
            | (refine wpList_bx_sl (d := []) rfl _ _ 32 42 Tryd.underlying32 Tryd.info42 rfl (by decide) (by decide) (fun z => row_one _ z) rfl G _ _ rfl HBI.out ba bc B (by rw [HNB.out]; rfl) hPi HW1.out (by simp [pr2, HNA.out, HNB.out]; omega) ?_; intro v2 w2 hb2 hg2; have HB2 : Hid (Bi 42 w w2 G v2 (pr2 A B 2)) := hb2; clear hb2 hg2)
            | fail)
          go_roundg 0
          case measure => omega
          case rel => exact ⟨2, _, rfl, by omega, rfl, rfl, HB2⟩
        · go_wp2
          go_ret
          exact ⟨_, rfl, HBI.out⟩
end Go.Proofs.YtjgjeedablgmeaaDoor
