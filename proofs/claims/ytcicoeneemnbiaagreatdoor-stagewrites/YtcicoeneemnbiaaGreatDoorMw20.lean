import Derived.Test.YtcicoeneemnbiaaGreatDoorMw11
import Derived.Test.YtcicoeneemnbiaaGreatDoorMw05
import Derived.Test.YtcicoeneemnbiaaGreatDoorMw19
import Derived.Test.YtcicoeneemnbiaaGreatDoorMw12
namespace Go.Proofs.YtcicoeneemnbiaaGreatDoor
open Go.RowKit
set_option linter.unusedVariables false
set_option linter.unusedSimpArgs false
structure Qs (b o b2 o2 : Nat) (x : Ey) (X : ByteArray) (W : World) : Prop where
  d0 : W.cell? ⟨b, o, none⟩ = some (.string X)
  d1 : W.cell? ⟨b, o + 1, none⟩ = some (.int .i64 x.mode)
  d2 : W.cell? ⟨b, o + 22, none⟩ = some (.int .i64 x.size)
  d3 : W.cell? ⟨b, o + 23, none⟩ = some (.int .i64 x.stage)
  id : W.rangeAt b (o + 2) (bv x.id)
  e0 : W.cell? ⟨b2, o2, none⟩ = some (.string X)
  e1 : W.cell? ⟨b2, o2 + 1, none⟩ = some (.int .i64 x.mode)
  e2 : W.cell? ⟨b2, o2 + 22, none⟩ = some (.int .i64 x.size)
  e3 : W.cell? ⟨b2, o2 + 23, none⟩ = some (.int .i64 x.stage)
  id2 : W.rangeAt b2 (o2 + 2) (bv x.id)
theorem row_bv (s : Str) : row .u8 (nums s) = bv s := by
  unfold row nums bv
  rw [List.map_map]
  rfl
set_option maxRecDepth 20000 in
set_option maxHeartbeats 4000000 in
theorem sameE_any {w : World} (a : Option Addr) (ca : Nat) (a2 : Option Addr) (ca2 : Nat) (l : List Ey) (hP : PY w a ca l) (hP2 : PY w a2 ca2 l) (hw : WY l) (hl : l.length ≤ 10000) : Calls Tryz.prog 23 #[.slice a l.length ca, .slice a2 l.length ca2] w fun e w' => e = .returned (.bool true) ∧ Below w.heap.size w w' := by
  obtain ⟨n, HN⟩ : ∃ n, Hid (l.length = n) := ⟨_, rfl⟩
  obtain ⟨g, HG⟩ : ∃ g, Hid (w.heap.size = g) := ⟨_, rfl⟩
  have hn : n ≤ 10000 := by rw [← HN.out]; exact hl
  have HPW : Hid (∀ W, Below g w W → PY W a ca l) := fun W hW => hP.below (by rw [HG.out]; exact hW)
  have HPW2 : Hid (∀ W, Below g w W → PY W a2 ca2 l) := fun W hW => hP2.below (by rw [HG.out]; exact hW)
  have HFA : Hid (0 < n → (∃ b off, a = some ⟨b, off, none⟩) ∧ ∃ b off, a2 = some ⟨b, off, none⟩) := fun h0 => by
    obtain ⟨b, off, e1, _⟩ := hP.at_ (by rw [HN.out]; exact h0)
    obtain ⟨b2, off2, e2, _⟩ := hP2.at_ (by rw [HN.out]; exact h0)
    exact ⟨⟨b, off, e1⟩, ⟨b2, off2, e2⟩⟩
  have HWY : Hid (WY l) := hw
  rw [HN.out]
  clear hP hP2 hw hl
  go_enter Tryz.func23, Tryz.ntmps23
  go_wp2_with fail
  go_loopg [5] n (fun gg iv wr => ∃ i : Nat, iv = .int .i64 i ∧ i ≤ n ∧ gg = n - i ∧ Hid (Below g w wr))
  case atStart => exact ⟨0, rfl, Nat.zero_le _, rfl, hid (Below.refl _ _)⟩
  case round =>
    obtain ⟨i, rfl, hi, hk, HB⟩ := hrel
    by_cases hlt : i < n
    · have hlti : (i : Int) < (n : Int) := by omega
      obtain ⟨⟨b, off, hae⟩, ⟨b2, off2, hae2⟩⟩ := HFA.out (by omega)
      subst hae
      subst hae2
      have hil : i < l.length := by rw [HN.out]; exact hlt
      obtain ⟨x, HX⟩ : ∃ x, Hid (l.getD i dY = x) := ⟨_, rfl⟩
      have HW : Hid (x.id.length = 20) := hid (by rw [← HX.out]; exact HWY.out _ (getD_mem l i dY hil))
      obtain ⟨X, HXX⟩ : ∃ S : ByteArray, Hid (⟨x.path.toArray⟩ = S) := ⟨_, rfl⟩
      have HBd : Hid (Below g w wr.drew) := hid (Below.drewR HB.out)
      have q1 := q5 HW.out (by rw [← HX.out]; exact (HPW.out _ HBd.out).row i hil)
      have q2 := q5 HW.out (by rw [← HX.out]; exact (HPW2.out _ HBd.out).row i hil)
      have hS : Qs b (off + i * 24) b2 (off2 + i * 24) x X wr.drew := ⟨by rw [← HXX.out]; exact q1.c0, q1.c1, q1.c22, q1.c23, q1.id, by rw [← HXX.out]; exact q2.c0, q2.c1, q2.c22, q2.c23, q2.id⟩
      have hi30 : (Tryz.prog.info? 30).map (·.size) = some (bv x.id).length := by rw [bv_len, HW.out]; kernel_rfl
      have hi29 : (Tryz.prog.info? 29).map (·.size) = some (bv x.id).length := by rw [bv_len, HW.out]; kernel_rfl
      have heq : ∀ W : World, (Op.equalIn 10000 30 (.agg (bv x.id).toArray) (.agg (bv x.id).toArray)).run Tryz.prog W = .ok true W := fun W => by
        have := same25 (nums x.id) (by rw [nums_len]; exact HW.out) W
        rw [row_bv] at this
        exact this
      clear q1 q2 hil
      go_wp2_with fail
      refine wp_region_held_drew (S := Qs b (off + i * 24) b2 (off2 + i * 24) x X) (by kernel_rfl) hS (fun hHeld => ?_)
      generalize wr.drew = wd at hHeld HBd ⊢
      clear hS
      refine takeL (i := 0) (v := ?_) rfl (by kernel_rfl) (by kernel_rfl) (by kernel_rfl) (fun _ _ _ h => h) (Or.inl ⟨by rfl, ?_⟩) hHeld ?_
      rotate_left
      · rintro w' ⟨d0, d1, d2, d3, d4, e0, e1, e2, e3, e4⟩; go_simp; rfl
      try simp only [Act.put, List.setIfInBounds_toArray, List.set_cons_zero, List.set_cons_succ]
      refine takeL (i := 1) (v := ?_) rfl (by kernel_rfl) (by kernel_rfl) (by kernel_rfl) (fun _ _ _ h => h) (Or.inl ⟨by rfl, ?_⟩) hHeld ?_
      rotate_left
      · rintro w' ⟨d0, d1, d2, d3, d4, e0, e1, e2, e3, e4⟩; go_simp; rfl
      try simp only [Act.put, List.setIfInBounds_toArray, List.set_cons_zero, List.set_cons_succ]
      refine takeL (i := 2) (v := ?_) rfl (by kernel_rfl) (by kernel_rfl) (by kernel_rfl) (fun _ _ _ h => h) (Or.inl ⟨by rfl, ?_⟩) hHeld ?_
      rotate_left
      · rintro w' ⟨d0, d1, d2, d3, d4, e0, e1, e2, e3, e4⟩; go_simp; rfl
      try simp only [Act.put, List.setIfInBounds_toArray, List.set_cons_zero, List.set_cons_succ]
      refine takeL (i := 3) (v := ?_) rfl (by kernel_rfl) (by kernel_rfl) (by kernel_rfl) (fun _ _ _ h => h) (Or.inl ⟨by rfl, ?_⟩) hHeld ?_
      rotate_left
      · rintro w' ⟨d0, d1, d2, d3, d4, e0, e1, e2, e3, e4⟩; go_simp; rfl
      try simp only [Act.put, List.setIfInBounds_toArray, List.set_cons_zero, List.set_cons_succ]
      refine takeL (i := 4) (v := ?_) rfl (by kernel_rfl) (by kernel_rfl) (by kernel_rfl) (fun _ _ _ h => h) (Or.inl ⟨by rfl, ?_⟩) hHeld ?_
      rotate_left
      · rintro w' ⟨d0, d1, d2, d3, d4, e0, e1, e2, e3, e4⟩; go_simp; rfl
      try simp only [Act.put, List.setIfInBounds_toArray, List.set_cons_zero, List.set_cons_succ]
      refine takeL (i := 5) (v := ?_) rfl (by kernel_rfl) (by kernel_rfl) (by kernel_rfl) (fun _ _ _ h => h) (Or.inl ⟨by rfl, ?_⟩) hHeld ?_
      rotate_left
      · rintro w' ⟨d0, d1, d2, d3, d4, e0, e1, e2, e3, e4⟩; go_simp; rfl
      try simp only [Act.put, List.setIfInBounds_toArray, List.set_cons_zero, List.set_cons_succ]
      refine takeL (i := 6) (v := ?_) rfl (by kernel_rfl) (by kernel_rfl) (by kernel_rfl) (fun _ _ _ h => h) (Or.inl ⟨by rfl, ?_⟩) hHeld ?_
      rotate_left
      · rintro w' ⟨d0, d1, d2, d3, d4, e0, e1, e2, e3, e4⟩; go_simp; rfl
      try simp only [Act.put, List.setIfInBounds_toArray, List.set_cons_zero, List.set_cons_succ]
      refine takeL (i := 7) (v := ?_) rfl (by kernel_rfl) (by kernel_rfl) (by kernel_rfl) (fun _ _ _ h => h) (Or.inl ⟨by rfl, ?_⟩) hHeld ?_
      rotate_left
      · rintro w' ⟨d0, d1, d2, d3, d4, e0, e1, e2, e3, e4⟩; go_simp; rfl
      try simp only [Act.put, List.setIfInBounds_toArray, List.set_cons_zero, List.set_cons_succ]
      refine takeL (i := 8) (v := ?_) rfl (by kernel_rfl) (by kernel_rfl) (by kernel_rfl) (fun _ _ _ h => h) (Or.inl ⟨by rfl, ?_⟩) hHeld ?_
      rotate_left
      · rintro w' ⟨d0, d1, d2, d3, d4, e0, e1, e2, e3, e4⟩; go_simp; rfl
      try simp only [Act.put, List.setIfInBounds_toArray, List.set_cons_zero, List.set_cons_succ]
      refine takeL (i := 9) (v := ?_) rfl (by kernel_rfl) (by kernel_rfl) (by kernel_rfl) (fun _ _ _ h => h) (Or.inl ⟨by rfl, ?_⟩) hHeld ?_
      rotate_left
      · rintro w' ⟨d0, d1, d2, d3, d4, e0, e1, e2, e3, e4⟩; go_simp; rfl
      try simp only [Act.put, List.setIfInBounds_toArray, List.set_cons_zero, List.set_cons_succ]
      refine takeL (i := 10) (v := .bool false) rfl (by kernel_rfl) (by kernel_rfl) (by kernel_rfl) (fun _ _ _ h => h) (Or.inl ⟨by rfl, ?_⟩) hHeld ?_
      · rintro w' ⟨d0, d1, d2, d3, d4, e0, e1, e2, e3, e4⟩; go_simp; try rfl
      try simp only [Act.put, List.setIfInBounds_toArray, List.set_cons_zero, List.set_cons_succ]
      refine takeL (i := 11) (v := ?_) rfl (by kernel_rfl) (by kernel_rfl) (by kernel_rfl) (fun _ _ _ h => h) (Or.inl ⟨by rfl, ?_⟩) hHeld ?_
      rotate_left
      · rintro w' ⟨d0, d1, d2, d3, d4, e0, e1, e2, e3, e4⟩; go_simp; rfl
      try simp only [Act.put, List.setIfInBounds_toArray, List.set_cons_zero, List.set_cons_succ]
      refine takeL (i := 12) (v := ?_) rfl (by kernel_rfl) (by kernel_rfl) (by kernel_rfl) (fun _ _ _ h => h) (Or.inl ⟨by kernel_rfl, ?_⟩) hHeld ?_
      rotate_left
      · rintro w' ⟨d0, d1, d2, d3, d4, e0, e1, e2, e3, e4⟩; go_simp; rfl
      try simp only [Act.put, List.setIfInBounds_toArray, List.set_cons_zero, List.set_cons_succ]
      refine takeL (i := 13) (v := ?_) rfl (by kernel_rfl) (by kernel_rfl) (by kernel_rfl) (fun _ _ _ h => h) (Or.inl ⟨by kernel_rfl, ?_⟩) hHeld ?_
      rotate_left
      · rintro w' ⟨d0, d1, d2, d3, d4, e0, e1, e2, e3, e4⟩; go_simp; rfl
      try simp only [Act.put, List.setIfInBounds_toArray, List.set_cons_zero, List.set_cons_succ]
      refine takeL (i := 14) (v := ?_) rfl (by kernel_rfl) (by kernel_rfl) (by kernel_rfl) (fun _ _ _ h => h) (Or.inl ⟨by kernel_rfl, ?_⟩) hHeld ?_
      rotate_left
      · rintro w' ⟨d0, d1, d2, d3, d4, e0, e1, e2, e3, e4⟩; go_simp; rfl
      try simp only [Act.put, List.setIfInBounds_toArray, List.set_cons_zero, List.set_cons_succ]
      refine takeL (i := 15) (v := ?_) rfl (by kernel_rfl) (by kernel_rfl) (by kernel_rfl) (fun _ _ _ h => h) (Or.inl ⟨by kernel_rfl, ?_⟩) hHeld ?_
      rotate_left
      · rintro w' ⟨d0, d1, d2, d3, d4, e0, e1, e2, e3, e4⟩; go_simp; rfl
      try simp only [Act.put, List.setIfInBounds_toArray, List.set_cons_zero, List.set_cons_succ]
      refine takeL (i := 16) (v := ?_) rfl (by kernel_rfl) (by kernel_rfl) (by kernel_rfl) (fun _ _ _ h => h) (Or.inl ⟨by kernel_rfl, ?_⟩) hHeld ?_
      rotate_left
      · rintro w' ⟨d0, d1, d2, d3, d4, e0, e1, e2, e3, e4⟩; go_simp; rfl
      try simp only [Act.put, List.setIfInBounds_toArray, List.set_cons_zero, List.set_cons_succ]
      refine takeL (i := 17) (v := ?_) rfl (by kernel_rfl) (by kernel_rfl) (by kernel_rfl) (fun _ _ _ h => h) (Or.inl ⟨by kernel_rfl, ?_⟩) hHeld ?_
      rotate_left
      · rintro w' ⟨d0, d1, d2, d3, d4, e0, e1, e2, e3, e4⟩; go_simp; rfl
      try simp only [Act.put, List.setIfInBounds_toArray, List.set_cons_zero, List.set_cons_succ]
      refine takeL (i := 18) (v := ?_) rfl (by kernel_rfl) (by kernel_rfl) (by kernel_rfl) (fun _ _ _ h => h) (Or.inl ⟨by kernel_rfl, ?_⟩) hHeld ?_
      rotate_left
      · rintro w' ⟨d0, d1, d2, d3, d4, e0, e1, e2, e3, e4⟩; go_simp; rfl
      try simp only [Act.put, List.setIfInBounds_toArray, List.set_cons_zero, List.set_cons_succ]
      refine takeL (i := 19) (v := ?_) rfl (by kernel_rfl) (by kernel_rfl) (by kernel_rfl) (fun _ _ _ h => h) (Or.inl ⟨by kernel_rfl, ?_⟩) hHeld ?_
      rotate_left
      · rintro w' ⟨d0, d1, d2, d3, d4, e0, e1, e2, e3, e4⟩; go_simp; rfl
      try simp only [Act.put, List.setIfInBounds_toArray, List.set_cons_zero, List.set_cons_succ]
      refine takeL (i := 20) (v := ?_) rfl (by kernel_rfl) (by kernel_rfl) (by kernel_rfl) (fun _ _ _ h => h) (Or.inl ⟨by kernel_rfl, ?_⟩) hHeld ?_
      rotate_left
      · rintro w' ⟨d0, d1, d2, d3, d4, e0, e1, e2, e3, e4⟩; go_simp; rfl
      try simp only [Act.put, List.setIfInBounds_toArray, List.set_cons_zero, List.set_cons_succ]
      refine takeL (i := 21) (v := ?_) rfl (by kernel_rfl) (by kernel_rfl) (by kernel_rfl) (fun _ _ _ h => h) (Or.inl ⟨by kernel_rfl, ?_⟩) hHeld ?_
      rotate_left
      · rintro w' ⟨d0, d1, d2, d3, d4, e0, e1, e2, e3, e4⟩; go_simp; rfl
      try simp only [Act.put, List.setIfInBounds_toArray, List.set_cons_zero, List.set_cons_succ]
      refine takeL (i := 22) (v := .bool false) rfl (by kernel_rfl) (by kernel_rfl) (by kernel_rfl) (fun _ _ _ h => h) (Or.inl ⟨by kernel_rfl, ?_⟩) hHeld ?_
      · rintro w' ⟨d0, d1, d2, d3, d4, e0, e1, e2, e3, e4⟩; go_simp; try rfl
      try simp only [Act.put, List.setIfInBounds_toArray, List.set_cons_zero, List.set_cons_succ]
      refine takeL (i := 23) (v := .bool false) rfl (by kernel_rfl) (by kernel_rfl) (by kernel_rfl) (fun _ _ _ h => h) (Or.inl ⟨by rfl, ?_⟩) hHeld ?_
      · rintro w' ⟨d0, d1, d2, d3, d4, e0, e1, e2, e3, e4⟩; go_simp; try rfl
      try simp only [Act.put, List.setIfInBounds_toArray, List.set_cons_zero, List.set_cons_succ]
      refine takeL (i := 24) (v := ?_) rfl (by kernel_rfl) (by kernel_rfl) (by kernel_rfl) (fun _ _ _ h => h) (Or.inl ⟨by rfl, ?_⟩) hHeld ?_
      rotate_left
      · rintro w' ⟨d0, d1, d2, d3, d4, e0, e1, e2, e3, e4⟩; go_simp; rfl
      try simp only [Act.put, List.setIfInBounds_toArray, List.set_cons_zero, List.set_cons_succ]
      refine takeL (i := 25) (v := ?_) rfl (by kernel_rfl) (by kernel_rfl) (by kernel_rfl) (fun _ _ _ h => h) (Or.inl ⟨by kernel_rfl, ?_⟩) hHeld ?_
      rotate_left
      · rintro w' ⟨d0, d1, d2, d3, d4, e0, e1, e2, e3, e4⟩; go_simp; rfl
      try simp only [Act.put, List.setIfInBounds_toArray, List.set_cons_zero, List.set_cons_succ]
      refine takeL (i := 26) (v := ?_) rfl (by kernel_rfl) (by kernel_rfl) (by kernel_rfl) (fun _ _ _ h => h) (Or.inl ⟨by kernel_rfl, ?_⟩) hHeld ?_
      rotate_left
      · rintro w' ⟨d0, d1, d2, d3, d4, e0, e1, e2, e3, e4⟩; go_simp; rfl
      try simp only [Act.put, List.setIfInBounds_toArray, List.set_cons_zero, List.set_cons_succ]
      refine takeL (i := 27) (v := ?_) rfl (by kernel_rfl) (by kernel_rfl) (by kernel_rfl) (fun _ _ _ h => h) (Or.inl ⟨by kernel_rfl, ?_⟩) hHeld ?_
      rotate_left
      · rintro w' ⟨d0, d1, d2, d3, d4, e0, e1, e2, e3, e4⟩; go_simp; rfl
      try simp only [Act.put, List.setIfInBounds_toArray, List.set_cons_zero, List.set_cons_succ]
      refine takeL (i := 28) (v := ?_) rfl (by kernel_rfl) (by kernel_rfl) (by kernel_rfl) (fun _ _ _ h => h) (Or.inl ⟨by kernel_rfl, ?_⟩) hHeld ?_
      rotate_left
      · rintro w' ⟨d0, d1, d2, d3, d4, e0, e1, e2, e3, e4⟩; go_simp; rfl
      try simp only [Act.put, List.setIfInBounds_toArray, List.set_cons_zero, List.set_cons_succ]
      refine takeL (i := 29) (v := .agg (bv x.id).toArray) rfl (by kernel_rfl) (by kernel_rfl) (by kernel_rfl) (fun _ _ _ h => h) (yieldsIf_load_mid (by kernel_rfl) 30 _ rfl b (off + i * 24 + 2) (by rfl) (bv x.id) _ (fun w' h => h.id) Tryz.underlying30 rfl hi30) hHeld ?_
      try simp only [Act.put, List.setIfInBounds_toArray, List.set_cons_zero, List.set_cons_succ]
      refine takeL (i := 30) (v := ?_) rfl (by kernel_rfl) (by kernel_rfl) (by kernel_rfl) (fun _ _ _ h => h) (Or.inl ⟨by kernel_rfl, ?_⟩) hHeld ?_
      rotate_left
      · rintro w' ⟨d0, d1, d2, d3, d4, e0, e1, e2, e3, e4⟩; go_simp; rfl
      try simp only [Act.put, List.setIfInBounds_toArray, List.set_cons_zero, List.set_cons_succ]
      refine takeL (i := 31) (v := ?_) rfl (by kernel_rfl) (by kernel_rfl) (by kernel_rfl) (fun _ _ _ h => h) (Or.inl ⟨by kernel_rfl, ?_⟩) hHeld ?_
      rotate_left
      · rintro w' ⟨d0, d1, d2, d3, d4, e0, e1, e2, e3, e4⟩; go_simp; rfl
      try simp only [Act.put, List.setIfInBounds_toArray, List.set_cons_zero, List.set_cons_succ]
      refine takeL (i := 32) (v := ?_) rfl (by kernel_rfl) (by kernel_rfl) (by kernel_rfl) (fun _ _ _ h => h) (Or.inl ⟨by kernel_rfl, ?_⟩) hHeld ?_
      rotate_left
      · rintro w' ⟨d0, d1, d2, d3, d4, e0, e1, e2, e3, e4⟩; go_simp; rfl
      try simp only [Act.put, List.setIfInBounds_toArray, List.set_cons_zero, List.set_cons_succ]
      refine takeL (i := 33) (v := ?_) rfl (by kernel_rfl) (by kernel_rfl) (by kernel_rfl) (fun _ _ _ h => h) (Or.inl ⟨by kernel_rfl, ?_⟩) hHeld ?_
      rotate_left
      · rintro w' ⟨d0, d1, d2, d3, d4, e0, e1, e2, e3, e4⟩; go_simp; rfl
      try simp only [Act.put, List.setIfInBounds_toArray, List.set_cons_zero, List.set_cons_succ]
      refine takeL (i := 34) (v := .agg (bv x.id).toArray) rfl (by kernel_rfl) (by kernel_rfl) (by kernel_rfl) (fun _ _ _ h => h) (yieldsIf_load_mid (by kernel_rfl) 29 _ rfl b2 (off2 + i * 24 + 2) (by rfl) (bv x.id) _ (fun w' h => h.id2) Tryz.underlying29 rfl hi29) hHeld ?_
      try simp only [Act.put, List.setIfInBounds_toArray, List.set_cons_zero, List.set_cons_succ]
      refine takeL (i := 35) (v := .bool false) rfl (by kernel_rfl) (by kernel_rfl) (by kernel_rfl) (fun _ _ _ h => h) (Or.inl ⟨by kernel_rfl, ?_⟩) hHeld ?_
      · rintro w' ⟨d0, d1, d2, d3, d4, e0, e1, e2, e3, e4⟩; go_simp; try rfl
      try simp only [Act.put, List.setIfInBounds_toArray, List.set_cons_zero, List.set_cons_succ]
      refine takeL (i := 36) (v := .bool false) rfl (by kernel_rfl) (by kernel_rfl) (by kernel_rfl) (fun _ _ _ h => h) (Or.inl ⟨by rfl, ?_⟩) hHeld ?_
      · rintro w' ⟨d0, d1, d2, d3, d4, e0, e1, e2, e3, e4⟩; go_simp; try rfl
      try simp only [Act.put, List.setIfInBounds_toArray, List.set_cons_zero, List.set_cons_succ]
      refine takeL (i := 37) (v := ?_) rfl (by kernel_rfl) (by kernel_rfl) (by kernel_rfl) (fun _ _ _ h => h) (Or.inl ⟨by rfl, ?_⟩) hHeld ?_
      rotate_left
      · rintro w' ⟨d0, d1, d2, d3, d4, e0, e1, e2, e3, e4⟩; go_simp; rfl
      try simp only [Act.put, List.setIfInBounds_toArray, List.set_cons_zero, List.set_cons_succ]
      refine takeL (i := 38) (v := ?_) rfl (by kernel_rfl) (by kernel_rfl) (by kernel_rfl) (fun _ _ _ h => h) (Or.inl ⟨by kernel_rfl, ?_⟩) hHeld ?_
      rotate_left
      · rintro w' ⟨d0, d1, d2, d3, d4, e0, e1, e2, e3, e4⟩; go_simp; rfl
      try simp only [Act.put, List.setIfInBounds_toArray, List.set_cons_zero, List.set_cons_succ]
      refine takeL (i := 39) (v := ?_) rfl (by kernel_rfl) (by kernel_rfl) (by kernel_rfl) (fun _ _ _ h => h) (Or.inl ⟨by kernel_rfl, ?_⟩) hHeld ?_
      rotate_left
      · rintro w' ⟨d0, d1, d2, d3, d4, e0, e1, e2, e3, e4⟩; go_simp; rfl
      try simp only [Act.put, List.setIfInBounds_toArray, List.set_cons_zero, List.set_cons_succ]
      refine takeL (i := 40) (v := ?_) rfl (by kernel_rfl) (by kernel_rfl) (by kernel_rfl) (fun _ _ _ h => h) (Or.inl ⟨by kernel_rfl, ?_⟩) hHeld ?_
      rotate_left
      · rintro w' ⟨d0, d1, d2, d3, d4, e0, e1, e2, e3, e4⟩; go_simp; rfl
      try simp only [Act.put, List.setIfInBounds_toArray, List.set_cons_zero, List.set_cons_succ]
      refine takeL (i := 41) (v := ?_) rfl (by kernel_rfl) (by kernel_rfl) (by kernel_rfl) (fun _ _ _ h => h) (Or.inl ⟨by kernel_rfl, ?_⟩) hHeld ?_
      rotate_left
      · rintro w' ⟨d0, d1, d2, d3, d4, e0, e1, e2, e3, e4⟩; go_simp; rfl
      try simp only [Act.put, List.setIfInBounds_toArray, List.set_cons_zero, List.set_cons_succ]
      refine takeL (i := 42) (v := ?_) rfl (by kernel_rfl) (by kernel_rfl) (by kernel_rfl) (fun _ _ _ h => h) (Or.inl ⟨by kernel_rfl, ?_⟩) hHeld ?_
      rotate_left
      · rintro w' ⟨d0, d1, d2, d3, d4, e0, e1, e2, e3, e4⟩; go_simp; rfl
      try simp only [Act.put, List.setIfInBounds_toArray, List.set_cons_zero, List.set_cons_succ]
      refine takeL (i := 43) (v := ?_) rfl (by kernel_rfl) (by kernel_rfl) (by kernel_rfl) (fun _ _ _ h => h) (Or.inl ⟨by kernel_rfl, ?_⟩) hHeld ?_
      rotate_left
      · rintro w' ⟨d0, d1, d2, d3, d4, e0, e1, e2, e3, e4⟩; go_simp; rfl
      try simp only [Act.put, List.setIfInBounds_toArray, List.set_cons_zero, List.set_cons_succ]
      refine takeL (i := 44) (v := ?_) rfl (by kernel_rfl) (by kernel_rfl) (by kernel_rfl) (fun _ _ _ h => h) (Or.inl ⟨by kernel_rfl, ?_⟩) hHeld ?_
      rotate_left
      · rintro w' ⟨d0, d1, d2, d3, d4, e0, e1, e2, e3, e4⟩; go_simp; rfl
      try simp only [Act.put, List.setIfInBounds_toArray, List.set_cons_zero, List.set_cons_succ]
      refine takeL (i := 45) (v := ?_) rfl (by kernel_rfl) (by kernel_rfl) (by kernel_rfl) (fun _ _ _ h => h) (Or.inl ⟨by kernel_rfl, ?_⟩) hHeld ?_
      rotate_left
      · rintro w' ⟨d0, d1, d2, d3, d4, e0, e1, e2, e3, e4⟩; go_simp; rfl
      try simp only [Act.put, List.setIfInBounds_toArray, List.set_cons_zero, List.set_cons_succ]
      refine takeL (i := 46) (v := ?_) rfl (by kernel_rfl) (by kernel_rfl) (by kernel_rfl) (fun _ _ _ h => h) (Or.inl ⟨by kernel_rfl, ?_⟩) hHeld ?_
      rotate_left
      · rintro w' ⟨d0, d1, d2, d3, d4, e0, e1, e2, e3, e4⟩; go_simp; rfl
      try simp only [Act.put, List.setIfInBounds_toArray, List.set_cons_zero, List.set_cons_succ]
      refine takeL (i := 47) (v := ?_) rfl (by kernel_rfl) (by kernel_rfl) (by kernel_rfl) (fun _ _ _ h => h) (Or.inl ⟨by kernel_rfl, ?_⟩) hHeld ?_
      rotate_left
      · rintro w' ⟨d0, d1, d2, d3, d4, e0, e1, e2, e3, e4⟩; go_simp; rfl
      try simp only [Act.put, List.setIfInBounds_toArray, List.set_cons_zero, List.set_cons_succ]
      refine takeL (i := 48) (v := .bool false) rfl (by kernel_rfl) (by kernel_rfl) (by kernel_rfl) (fun _ _ _ h => h) (Or.inl ⟨by kernel_rfl, ?_⟩) hHeld ?_
      · rintro w' ⟨d0, d1, d2, d3, d4, e0, e1, e2, e3, e4⟩; go_simp; try rfl
      try simp only [Act.put, List.setIfInBounds_toArray, List.set_cons_zero, List.set_cons_succ]
      refine takeL (i := 49) (v := .bool false) rfl (by kernel_rfl) (by kernel_rfl) (by kernel_rfl) (fun _ _ _ h => h) (Or.inl ⟨by rfl, ?_⟩) hHeld ?_
      · rintro w' ⟨d0, d1, d2, d3, d4, e0, e1, e2, e3, e4⟩; go_simp; try rfl
      try simp only [Act.put, List.setIfInBounds_toArray, List.set_cons_zero, List.set_cons_succ]
      refine takeL (i := 50) (v := ?_) rfl (by kernel_rfl) (by kernel_rfl) (by kernel_rfl) (fun _ _ _ h => h) (Or.inl ⟨by rfl, ?_⟩) hHeld ?_
      rotate_left
      · rintro w' ⟨d0, d1, d2, d3, d4, e0, e1, e2, e3, e4⟩; go_simp; rfl
      try simp only [Act.put, List.setIfInBounds_toArray, List.set_cons_zero, List.set_cons_succ]
      refine takeL (i := 51) (v := ?_) rfl (by kernel_rfl) (by kernel_rfl) (by kernel_rfl) (fun _ _ _ h => h) (Or.inl ⟨by kernel_rfl, ?_⟩) hHeld ?_
      rotate_left
      · rintro w' ⟨d0, d1, d2, d3, d4, e0, e1, e2, e3, e4⟩; go_simp; rfl
      try simp only [Act.put, List.setIfInBounds_toArray, List.set_cons_zero, List.set_cons_succ]
      refine takeL (i := 52) (v := ?_) rfl (by kernel_rfl) (by kernel_rfl) (by kernel_rfl) (fun _ _ _ h => h) (Or.inl ⟨by kernel_rfl, ?_⟩) hHeld ?_
      rotate_left
      · rintro w' ⟨d0, d1, d2, d3, d4, e0, e1, e2, e3, e4⟩; go_simp; rfl
      try simp only [Act.put, List.setIfInBounds_toArray, List.set_cons_zero, List.set_cons_succ]
      refine takeL (i := 53) (v := ?_) rfl (by kernel_rfl) (by kernel_rfl) (by kernel_rfl) (fun _ _ _ h => h) (Or.inl ⟨by kernel_rfl, ?_⟩) hHeld ?_
      rotate_left
      · rintro w' ⟨d0, d1, d2, d3, d4, e0, e1, e2, e3, e4⟩; go_simp; rfl
      try simp only [Act.put, List.setIfInBounds_toArray, List.set_cons_zero, List.set_cons_succ]
      refine takeL (i := 54) (v := ?_) rfl (by kernel_rfl) (by kernel_rfl) (by kernel_rfl) (fun _ _ _ h => h) (Or.inl ⟨by kernel_rfl, ?_⟩) hHeld ?_
      rotate_left
      · rintro w' ⟨d0, d1, d2, d3, d4, e0, e1, e2, e3, e4⟩; go_simp; rfl
      try simp only [Act.put, List.setIfInBounds_toArray, List.set_cons_zero, List.set_cons_succ]
      refine takeL (i := 55) (v := ?_) rfl (by kernel_rfl) (by kernel_rfl) (by kernel_rfl) (fun _ _ _ h => h) (Or.inl ⟨by kernel_rfl, ?_⟩) hHeld ?_
      rotate_left
      · rintro w' ⟨d0, d1, d2, d3, d4, e0, e1, e2, e3, e4⟩; go_simp; rfl
      try simp only [Act.put, List.setIfInBounds_toArray, List.set_cons_zero, List.set_cons_succ]
      refine takeL (i := 56) (v := ?_) rfl (by kernel_rfl) (by kernel_rfl) (by kernel_rfl) (fun _ _ _ h => h) (Or.inl ⟨by kernel_rfl, ?_⟩) hHeld ?_
      rotate_left
      · rintro w' ⟨d0, d1, d2, d3, d4, e0, e1, e2, e3, e4⟩; go_simp; rfl
      try simp only [Act.put, List.setIfInBounds_toArray, List.set_cons_zero, List.set_cons_succ]
      refine takeL (i := 57) (v := ?_) rfl (by kernel_rfl) (by kernel_rfl) (by kernel_rfl) (fun _ _ _ h => h) (Or.inl ⟨by kernel_rfl, ?_⟩) hHeld ?_
      rotate_left
      · rintro w' ⟨d0, d1, d2, d3, d4, e0, e1, e2, e3, e4⟩; go_simp; rfl
      try simp only [Act.put, List.setIfInBounds_toArray, List.set_cons_zero, List.set_cons_succ]
      refine takeL (i := 58) (v := ?_) rfl (by kernel_rfl) (by kernel_rfl) (by kernel_rfl) (fun _ _ _ h => h) (Or.inl ⟨by kernel_rfl, ?_⟩) hHeld ?_
      rotate_left
      · rintro w' ⟨d0, d1, d2, d3, d4, e0, e1, e2, e3, e4⟩; go_simp; rfl
      try simp only [Act.put, List.setIfInBounds_toArray, List.set_cons_zero, List.set_cons_succ]
      refine takeL (i := 59) (v := ?_) rfl (by kernel_rfl) (by kernel_rfl) (by kernel_rfl) (fun _ _ _ h => h) (Or.inl ⟨by kernel_rfl, ?_⟩) hHeld ?_
      rotate_left
      · rintro w' ⟨d0, d1, d2, d3, d4, e0, e1, e2, e3, e4⟩; go_simp; rfl
      try simp only [Act.put, List.setIfInBounds_toArray, List.set_cons_zero, List.set_cons_succ]
      refine takeL (i := 60) (v := ?_) rfl (by kernel_rfl) (by kernel_rfl) (by kernel_rfl) (fun _ _ _ h => h) (Or.inl ⟨by kernel_rfl, ?_⟩) hHeld ?_
      rotate_left
      · rintro w' ⟨d0, d1, d2, d3, d4, e0, e1, e2, e3, e4⟩; go_simp; rfl
      try simp only [Act.put, List.setIfInBounds_toArray, List.set_cons_zero, List.set_cons_succ]
      refine takeL (i := 61) (v := .bool false) rfl (by kernel_rfl) (by kernel_rfl) (by kernel_rfl) (fun _ _ _ h => h) (Or.inl ⟨by kernel_rfl, ?_⟩) hHeld ?_
      · rintro w' ⟨d0, d1, d2, d3, d4, e0, e1, e2, e3, e4⟩; go_simp; try rfl
      try simp only [Act.put, List.setIfInBounds_toArray, List.set_cons_zero, List.set_cons_succ]
      refine takeL (i := 62) (v := .bool false) rfl (by kernel_rfl) (by kernel_rfl) (by kernel_rfl) (fun _ _ _ h => h) (Or.inl ⟨by rfl, ?_⟩) hHeld ?_
      · rintro w' ⟨d0, d1, d2, d3, d4, e0, e1, e2, e3, e4⟩; go_simp; try rfl
      try simp only [Act.put, List.setIfInBounds_toArray, List.set_cons_zero, List.set_cons_succ]
      refine wpAnyH_done (by kernel_rfl) ?_ _
      clear hHeld
      go_wp2
      go_roundg (n - (i + 1))
      case measure => omega
      case rel => exact ⟨i + 1, by go_num, by omega, rfl, HBd⟩
    · have hlti : ¬ (i : Int) < (n : Int) := by omega
      go_wp2
      go_ret
      exact ⟨rfl, by rw [HG.out]; exact HB.out⟩
end Go.Proofs.YtcicoeneemnbiaaGreatDoor
namespace Go.Proofs.YtcicoeneemnbiaaGreatDoor
variable [Inhabited En]
set_option linter.unusedVariables false
set_option linter.unusedSectionVars false
set_option linter.unusedSimpArgs false
theorem nb_fold : ∀ (k n a : Nat), (nb k n).foldl (fun n (x : UInt8) => n * 256 + x.toNat) a = a * 256 ^ k + n % 256 ^ k
  | 0, n, a => by simp [nb, Nat.mod_one]
  | k + 1, n, a => by
    rw [nb, List.foldl_cons, nb_fold k n]
    have h1 : (UInt8.ofNat (n / 256 ^ k)).toNat = n / 256 ^ k % 256 := by simp
    rw [h1, Nat.pow_succ, Nat.mod_mul, Nat.add_mul, Nat.mul_assoc, Nat.mul_comm 256 (256 ^ k), Nat.mul_comm (n / 256 ^ k % 256)]
    omega
theorem bn_nb (k n : Nat) (h : n < 256 ^ k) : bn (nb k n) = n := by
  unfold bn
  rw [nb_fold, Nat.mod_eq_of_lt h]
  omega
theorem seg {l A B C : Str} {i k : Nat} (h : l = A ++ (B ++ C)) (hA : A.length = i) (hB : B.length = k) : (l.drop i).take k = B := by
  rw [h, List.drop_left' hA, List.take_left' hB]
structure Wr (x : Ey) : Prop where
  f : fOk x
  p : x.path.length ≤ 100
  i : x.id.length = 20
theorem ent_parts (x : Ey) (h : Wr x) (t : Str) : 62 + x.path.length < (entB x ++ t).length ∧ bth (entB x ++ t) = x.stage.toNat * 4096 + x.path.length ∧ rdE (entB x ++ t) = x ∧ (entB x ++ t).drop (entLen x.path.length) = t := by
  have hlen := entB_len x h.i
  have hge := entLen_ge x.path.length
  have hp := h.p
  obtain ⟨hm, hs0, hs1, ht0, ht1⟩ := h.f
  have h2562 : (256 : Nat) ^ 2 = 65536 := by decide
  have h1 : 62 + x.path.length < (entB x ++ t).length := by rw [List.length_append, hlen]; omega
  have h2 : bth (entB x ++ t) = x.stage.toNat * 4096 + x.path.length := by
    rw [← bth_bn _ (by omega), seg (l := entB x ++ t) (A := zs 24 ++ nb 4 x.mode.toNat ++ zs 8 ++ nb 4 x.size.toNat ++ x.id) (B := nb 2 (x.stage.toNat * 4096 + x.path.length)) (C := x.path ++ zs (entLen x.path.length - (62 + x.path.length)) ++ t) (by unfold entB; simp only [List.append_assoc]) (by simp only [List.length_append, zs_len, nb_len, h.i]) (nb_len _ _), bn_nb _ _ (by rw [h2562]; omega)]
  have hmod : (x.stage.toNat * 4096 + x.path.length) % 4096 = x.path.length := by omega
  have hdiv : (x.stage.toNat * 4096 + x.path.length) / 4096 = x.stage.toNat := by omega
  have h256 : (256 : Nat) ^ 4 = 4294967296 := by decide
  refine ⟨h1, h2, ?_, by rw [List.drop_left' hlen]⟩
  rw [rdE_eq _ (by rw [h2, hmod]; omega) (by omega), h2, hmod, hdiv]
  have e1 : ((entB x ++ t).drop 62).take x.path.length = x.path := seg (A := zs 24 ++ nb 4 x.mode.toNat ++ zs 8 ++ nb 4 x.size.toNat ++ x.id ++ nb 2 (x.stage.toNat * 4096 + x.path.length)) (C := zs (entLen x.path.length - (62 + x.path.length)) ++ t) (by unfold entB; simp only [List.append_assoc]) (by simp only [List.length_append, zs_len, nb_len, h.i]) rfl
  have e2 : ((entB x ++ t).drop 24).take 4 = nb 4 x.mode.toNat := seg (A := zs 24) (C := zs 8 ++ nb 4 x.size.toNat ++ x.id ++ nb 2 (x.stage.toNat * 4096 + x.path.length) ++ x.path ++ zs (entLen x.path.length - (62 + x.path.length)) ++ t) (by unfold entB; simp only [List.append_assoc]) (zs_len _) (nb_len _ _)
  have e3 : ((entB x ++ t).drop 40).take 20 = x.id := seg (A := zs 24 ++ nb 4 x.mode.toNat ++ zs 8 ++ nb 4 x.size.toNat) (C := nb 2 (x.stage.toNat * 4096 + x.path.length) ++ x.path ++ zs (entLen x.path.length - (62 + x.path.length)) ++ t) (by unfold entB; simp only [List.append_assoc]) (by simp only [List.length_append, zs_len, nb_len]) h.i
  have e4 : ((entB x ++ t).drop 36).take 4 = nb 4 x.size.toNat := seg (A := zs 24 ++ nb 4 x.mode.toNat ++ zs 8) (C := x.id ++ nb 2 (x.stage.toNat * 4096 + x.path.length) ++ x.path ++ zs (entLen x.path.length - (62 + x.path.length)) ++ t) (by unfold entB; simp only [List.append_assoc]) (by simp only [List.length_append, zs_len, nb_len]) (nb_len _ _)
  rw [e1, e2, e3, e4, bn_nb _ _ (by omega), bn_nb _ _ (by omega)]
  obtain ⟨p, m, id, z, st⟩ := x
  simp only at *
  congr 1 <;> omega
theorem dcL_back : ∀ (l : List Ey) (t : Str), (∀ x ∈ l, Wr x) → dcL l.length (l.flatMap entB ++ t) = some l
  | [], t, _ => rfl
  | x :: l, t, h => by
    obtain ⟨h1, h2, h3, h4⟩ := ent_parts x (h x (by simp)) (l.flatMap entB ++ t)
    have hp := (h x (by simp)).p
    have hmod : (x.stage.toNat * 4096 + x.path.length) % 4096 = x.path.length := by omega
    rw [List.flatMap_cons, List.append_assoc, List.length_cons, dcL_go _ _ (by omega) (by rw [h2, hmod]; omega), h2, hmod, h4, dcL_back l t (fun y hy => h y (by simp [hy])), h3]
    rfl
theorem rdL_back : ∀ (l : List Ey) (k : Nat), (∀ x ∈ l, Wr x) → (l.flatMap entB).length ≤ k → rdL k (l.flatMap entB) = l
  | [], k, _, _ => rdL_short _ _ (by simp)
  | x :: l, k, h, hk => by
    obtain ⟨h1, h2, h3, h4⟩ := ent_parts x (h x (by simp)) (l.flatMap entB)
    rw [List.flatMap_cons] at hk ⊢
    obtain ⟨k, rfl⟩ : ∃ j, k = j + 1 := ⟨k - 1, by omega⟩
    have hn : nxt (entB x ++ l.flatMap entB) = l.flatMap entB := by
      unfold nxt
      rw [h3, Nat.min_eq_left (by rw [List.length_append, entB_len x (h x (by simp)).i]; omega), h4]
    rw [rdL, if_pos (by omega), h3, hn, rdL_back l k (fun y hy => h y (by simp [hy])) (by
      have h5 := entB_len x (h x (by simp)).i
      have h6 := entLen_ge x.path.length
      rw [List.length_append] at hk
      omega)]
theorem code_len {l : List Ey} (h : codeY l = 0) : l.length ≤ 2000 := by
  unfold codeY at h
  by_cases h1 : okPs l
  · rw [if_pos h1] at h
    by_cases h2 : l.length ≤ 2000 ∧ okFs l
    · exact h2.1
    · rw [if_neg h2] at h; cases h
  · rw [if_neg h1] at h; cases h
theorem good_of {s : Str} {l : List Ey} (h : DG l s) (hw : WY l) : readL s = srtY l ∧ docL s = some (srtY l) := by
  obtain ⟨h0, sm, hsm, hs⟩ := h
  have hok := code_ok h0
  have hlen := code_len h0
  have hsl : sm.length = 20 := by
    have := congrArg List.length hsm
    rw [nums_len, sha_len] at this
    exact this
  have hwr : ∀ x ∈ srtY l, Wr x := fun x hx => by
    have hx2 := (srtY_perm l).mem_iff.1 hx
    exact ⟨hok.2.1.1 x hx2, (hok.1 x hx2).1, hw x hx2⟩
  have hln : (srtY l).length ≤ 2000 := by rw [(srtY_perm l).length_eq]; exact hlen
  obtain ⟨L, hL⟩ : ∃ L, srtY l = L := ⟨_, rfl⟩
  rw [hL] at hs hwr hln ⊢
  unfold idxS at hs
  have hh : (hdB L.length).length = 12 := by unfold hdB; simp [nb_len]
  have hd : s.drop 12 = L.flatMap entB ++ sm := by rw [hs, List.append_assoc, List.drop_left' hh]
  have hsl2 : s.length = 12 + (L.flatMap entB).length + 20 := by rw [hs, List.length_append, List.length_append, hh, hsl]
  constructor
  · unfold readL
    rw [if_neg (by omega), hd, List.take_left' (by omega)]
    exact rdL_back L _ hwr (by omega)
  · have h8 : (s.drop 8).take 4 = nb 4 L.length := seg (A := [68, 73, 82, 67, 0, 0, 0, 2]) (C := L.flatMap entB ++ sm) (by rw [hs]; unfold hdB; simp only [List.append_assoc]) rfl (nb_len _ _)
    have h256 : (256 : Nat) ^ 4 = 4294967296 := by decide
    unfold docL
    rw [if_neg (by omega), h8, bn_nb _ _ (by omega), if_neg (by omega), hd]
    exact dcL_back L sm hwr
theorem dcL_wy : ∀ (k : Nat) (t : Str) (l : List Ey), dcL k t = some l → WY l
  | 0, t, l, h => by
    cases h
    exact fun e he => by cases he
  | k + 1, t, l, h => by
    by_cases hc : t.length < 62 ∨ t.length - 62 < bth t % 4096
    · rw [dcL_no k t hc] at h; cases h
    · rw [dcL_go k t (by omega) (by omega)] at h
      cases hq : dcL k (t.drop (entLen (bth t % 4096))) with
      | none => rw [hq] at h; cases h
      | some r =>
        rw [hq] at h
        cases h
        intro e he
        rcases List.mem_cons.1 he with rfl | he
        · exact rdE_id t (by omega)
        · exact dcL_wy k _ r hq e he
theorem docL_wy {s : Str} {l : List Ey} (h : docL s = some l) : WY l := by
  unfold docL at h
  split at h
  · cases h
  · split at h
    · cases h
    · exact dcL_wy _ _ _ h
theorem doc_good (s : Str) (hs : s.length ≤ 20000) (l : List Ey) (h : docL s = some l) (hd : DG l s) : Good s ∧ readL s = l := by
  obtain ⟨h1, h2⟩ := good_of hd (docL_wy h)
  rw [h] at h2
  have e := Option.some.inj h2
  rw [← e] at h1
  exact ⟨by unfold Good; rw [h1]; exact hd, h1⟩
theorem good_doc (s : Str) (hs : s.length ≤ 20000) (h : Good s) : docL s = some (readL s) ∧ DG (readL s) s := by
  obtain ⟨h1, h2⟩ := good_of (s := s) (l := readL s) h (readL_wf s hs).1
  rw [← h1] at h2
  exact ⟨h2, h⟩
end Go.Proofs.YtcicoeneemnbiaaGreatDoor
namespace Go.Proofs.YtcicoeneemnbiaaGreatDoor
open Go.RowKit
set_option linter.unusedVariables false
set_option linter.unusedSimpArgs false
theorem keyed9s : Maps.Keyed Tryz.prog 9 := Maps.string_keyed Tryz.underlying9
theorem key_txt (x : Str) (h : x.length ≤ 4000) : keyOf Tryz.prog 9 (sV x) = some (.string x) := by
  have h2 : (⟨x.toArray⟩ : ByteArray).size ≤ maxLen := by simp [ByteArray.size, maxLen]; omega
  unfold keyOf sV
  rw [Tryz.underlying9]
  simp [mapKey, Tryz.underlying9, h2]
theorem txt_inj {x y : Str} (h : sV x = sV y) : x = y := by
  unfold sV at h
  have h2 := congrArg ByteArray.data (Value.string.inj h)
  simpa using h2
theorem key_eqs {x y : Str} {kl : Lit} (h1 : keyOf Tryz.prog 9 (sV x) = some kl) (h2 : keyOf Tryz.prog 9 (sV y) = some kl) : x = y := txt_inj (keyed9s.inj h1 h2)
theorem und102 : Tryz.prog.underlying 102 = some (.map 9 103) := by kernel_rfl
theorem zero103 (w : World) : (zeroValue 103).run Tryz.prog w = .ok (.agg #[]) w := by kernel_rfl
def SS (w : World) (g n : Nat) (S : Str → Prop) : Prop := ∃ D, w.ownsMap (H := Unit) Tryz.prog 9 unitElem g n D ∧ ∀ x kl, keyOf Tryz.prog 9 (sV x) = some kl → (Maps.has D kl = true ↔ S x)
theorem SS.kept {w w' : World} {g n : Nat} {S : Str → Prop} {row : Option Nat} (h : SS w g n S) (hg : w.grownBy w' row) (hne : some g ≠ row) : SS w' g n S := by
  obtain ⟨D, h1, h2⟩ := h
  exact ⟨D, h1.kept hg hne, h2⟩
theorem SS.below {w w' : World} {g n : Nat} {S : Str → Prop} (h : SS w g n S) (hb : Below w.heap.size w w') : SS w' g n S := h.kept (row := none) (grown_of_below hb _) (by simp)
theorem SS.lt {w : World} {g n : Nat} {S : Str → Prop} (h : SS w g n S) : g < w.heap.size := by obtain ⟨D, h1, _⟩ := h; exact h1.lt
theorem SS.notCells {w : World} {g n : Nat} {S : Str → Prop} (h : SS w g n S) : ∃ es ck, w.heap[g]? = some (.map es ck) := by
  obtain ⟨D, ⟨es, ck, hb, _⟩, _⟩ := h
  exact ⟨es, ck, hb⟩
theorem ss_made (w : World) : SS (w.alloc (.map #[] 0)) w.heap.size 0 (fun _ => False) := ⟨_, World.ownsMap_made _ _ _ _, fun x kl _ => by simp [Maps.has]⟩
theorem SS.look {w : World} {g n : Nat} {S : Str → Prop} (h : SS w g n S) {x : Str} (hx : x.length ≤ 4000) : ∃ b : Bool, (b = true ↔ S x) ∧ (Instr.lookup 102 (.map (some g)) (sV x) true).run Tryz.prog w = .ok (.tuple #[.agg #[], .bool b]) w := by
  obtain ⟨D, h1, h2⟩ := h
  have hkl := key_txt x hx
  obtain ⟨v, ps, hrun, hv⟩ := h1.look_ok keyed9s und102 (zero103 w) (unitElem_mk (H := Unit)) hkl
  obtain ⟨rfl, _⟩ := unitElem_inv hv
  exact ⟨_, h2 x _ hkl, hrun⟩
theorem SS.put {w : World} {g n : Nat} {S : Str → Prop} (h : SS w g n S) (hn : n ≤ 100000) {x : Str} (hx : x.length ≤ 4000) : ∃ w', (Instr.mapUpdate 102 (.map (some g)) (sV x) (.agg #[])).run Tryz.prog w = .ok () w' ∧ SS w' g (n + 1) (fun y => y = x ∨ S y) ∧ w.grownBy w' (some g) := by
  obtain ⟨D, h1, h2⟩ := h
  have hkl := key_txt x hx
  obtain ⟨w', hrun, h3, h4⟩ := h1.update keyed9s und102 (by unfold maxLen; omega) hkl (unitElem_mk (H := Unit))
  refine ⟨w', hrun, ⟨_, h3, fun y ky hky => ?_⟩, h4⟩
  by_cases e : ky = .string x
  · subst e
    rw [Maps.has_put_same h1.isMap (keyed9s.key hkl)]
    simp [key_eqs hky hkl]
  · rw [Maps.has_put_other e, h2 y ky hky]
    constructor
    · exact .inr
    · rintro (rfl | h)
      · rw [hkl] at hky; exact absurd (Option.some.inj hky).symm e
      · exact h
def mk1 (D : Nat) : Deferred := { target := .collected D, args := #[] }
structure Marks (s : Nat) (W : World) (ds : List Nat) : Prop where
  nd : ds.Nodup
  ge : ∀ D ∈ ds, s ≤ D
  hm : ∀ D ∈ ds, W.heap[D]? = some (.deferred (some []))
theorem Marks.nil (s : Nat) (W : World) : Marks s W [] := ⟨List.nodup_nil, (fun D h => absurd h (by simp)), (fun D h => absurd h (by simp))⟩
theorem Marks.lt {s : Nat} {W : World} {ds : List Nat} (h : Marks s W ds) {D : Nat} (hD : D ∈ ds) : D < W.heap.size := lt_of_some (h.hm D hD)
theorem Marks.below {s : Nat} {W W' : World} {ds : List Nat} (h : Marks s W ds) (hb : Below W.heap.size W W') : Marks s W' ds := ⟨h.nd, h.ge, fun D hD => (hb.block D (h.lt hD)).trans (h.hm D hD)⟩
theorem Tryz.results30 : Tryz.f30.results = #[.cell 2 4] := by kernel_rfl
theorem leave_all (tmps : Array Value) (w : World) (v0 : Value) (h2 : tmps.getD 2 undef = .pointer (some ⟨w.heap.size, 0, none⟩)) (R : Ending → World → Prop) (hR : ∀ W, Below w.heap.size w W → R (.returned v0) W) :
    ∀ (ds : List Nat) (W : World), Marks w.heap.size W ds → Boxed W w.heap.size 4 v0 → Below w.heap.size w W → LeavesInM Fence.wide 3 Tryz.prog Tryz.f30 tmps R (ds.map mk1) .returning W
  | [], W, _, hb, hB => ⟨_, results_c1 Tryz.results30 _ _ _ v0 h2 hb.cell, hR W hB⟩
  | D :: ds, W, hm, hb, hB => by
    have hK := hm.hm D (by simp)
    have hr : ∀ r, some D = some r → ∃ o : Obj, W.heap[r]? = some o ∧ o.isCells = false := fun r e => by cases e; exact ⟨_, hK, rfl⟩
    refine ⟨by simp, .inl ⟨D, _, rfl, run_takeDeferred hK, leave_all tmps w v0 h2 R hR ds _ ?_ (boxed_kept hb (grownBy_putObj' _ D (.deferred none)) hr) ?_⟩⟩
    · refine ⟨(List.nodup_cons.1 hm.nd).2, fun E hE => hm.ge E (by simp [hE]), fun E hE => ?_⟩
      have hne : E ≠ D := fun e => (List.nodup_cons.1 hm.nd).1 (e ▸ hE)
      exact (World.putObj_heap_other (by omega)).trans (hm.hm E (by simp [hE]))
    · exact hB.trans (belowK_b (w := w) (Nat.le_refl _) _ D _ _ (hm.ge D (by simp)) hK rfl rfl)
end Go.Proofs.YtcicoeneemnbiaaGreatDoor
