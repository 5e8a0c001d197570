import Derived.Test.YtikmbjfambjmaaaGreatDoorMf18
namespace Go.Proofs.YtikmbjfambjmaaaGreatDoor.Gr
open Go.RowKit
set_option linter.unusedVariables false
set_option linter.unusedSimpArgs false
structure Qs (b o b2 o2 : Nat) (m : Int) (X : ByteArray) (IR : List Value) (W : World) : Prop where
  d0 : W.cell? ⟨b, o, none⟩ = some (.string X)
  d1 : W.cell? ⟨b, o + 1, none⟩ = some (.int .i64 m)
  d2 : W.cell? ⟨b, o + 22, none⟩ = some (.int .i64 0)
  d3 : W.cell? ⟨b, o + 23, none⟩ = some (.int .i64 0)
  d4 : W.rangeAt b (o + 2) IR
  e0 : W.cell? ⟨b2, o2, none⟩ = some (.string X)
  e1 : W.cell? ⟨b2, o2 + 1, none⟩ = some (.int .i64 m)
  e2 : W.cell? ⟨b2, o2 + 22, none⟩ = some (.int .i64 0)
  e3 : W.cell? ⟨b2, o2 + 23, none⟩ = some (.int .i64 0)
  e4 : W.rangeAt b2 (o2 + 2) IR
theorem cells_F {W : World} {b o : Nat} {x : Fe} (hx : x.id.length = 20) (h : W.rangeAt b o (encF x)) : W.cell? ⟨b, o, none⟩ = some (.string ⟨x.path.toArray⟩) ∧ W.cell? ⟨b, o + 1, none⟩ = some (.int .i64 x.mode) ∧ W.cell? ⟨b, o + 22, none⟩ = some (.int .i64 0) ∧ W.cell? ⟨b, o + 23, none⟩ = some (.int .i64 0) ∧ W.rangeAt b (o + 2) (row .u8 x.id) := by
  have hl : (row .u8 x.id).length = 20 := by rw [row_len]; exact hx
  refine ⟨h 0 _ rfl, h 1 _ rfl, h 22 _ ?_, h 23 _ ?_, fun j v hv => ?_⟩
  · unfold encF
    simp [List.getElem?_append_right, hl]
  · unfold encF
    simp [List.getElem?_append_right, hl]
  · have hj := (List.getElem?_eq_some_iff.1 hv).1
    have := h (j + 2) v (by unfold encF; simp [List.getElem?_append_left hj]; exact hv)
    rw [show o + (j + 2) = o + 2 + j by omega] at this
    exact this
theorem eq24 (x y : List Int) (hx : x.length = 20) (hy : y.length = 20) (w : World) : (Op.equalIn 10000 24 (idV x) (idV y)).run Tryz.prog w = .ok (decide (x = y)) w := by
  obtain ⟨i5, hi, -⟩ := info_parts Tryz.info5
  have h1 := eqItems_any (P := Tryz.prog) 9998 5 plain5 Tryz.underlying5 x y (List.range 20) w (fun j hj => by rw [hx, hy]; exact ⟨List.mem_range.1 hj, List.mem_range.1 hj⟩)
  rw [all_eq20 x y hx hy] at h1
  rw [show (10000 : Nat) = 9999 + 1 from rfl, run_equalIn_array w 9999 _ _ Tryz.underlying24 hi, cells5]
  exact h1
set_option maxRecDepth 20000 in
set_option maxHeartbeats 4000000 in
theorem same_any {w : World} (a : Option Addr) (ca : Nat) (a2 : Option Addr) (ca2 : Nat) (l : List Fe) (hP : Px encF 24 f0 w a ca l) (hP2 : Px encF 24 f0 w a2 ca2 l) (hw : IdF l) (hl : l.length ≤ 10000) : Calls Tryz.prog 9 #[.slice a l.length ca, .slice a2 l.length ca2] w fun e w' => e = .returned (.bool true) ∧ Below w.heap.size w w' := by
  obtain ⟨n, HN⟩ : ∃ n, Hid (l.length = n) := ⟨_, rfl⟩
  obtain ⟨g, HG⟩ : ∃ g, Hid (w.heap.size = g) := ⟨_, rfl⟩
  have hn : n ≤ 10000 := by rw [← HN.out]; exact hl
  have HPW : Hid (∀ W, Below g w W → Px encF 24 f0 W a ca l) := fun W hW => hP.below (by rw [HG.out]; exact hW)
  have HPW2 : Hid (∀ W, Below g w W → Px encF 24 f0 W a2 ca2 l) := fun W hW => hP2.below (by rw [HG.out]; exact hW)
  have HFA : Hid (0 < n → (∃ b off, a = some ⟨b, off, none⟩) ∧ ∃ b off, a2 = some ⟨b, off, none⟩) := fun h0 => by
    obtain ⟨b, off, e1, _⟩ := hP.at_ (by rw [HN.out]; exact h0)
    obtain ⟨b2, off2, e2, _⟩ := hP2.at_ (by rw [HN.out]; exact h0)
    exact ⟨⟨b, off, e1⟩, ⟨b2, off2, e2⟩⟩
  have HWY : Hid (IdF l) := hw
  rw [HN.out]
  clear hP hP2 hw hl
  go_enter Tryz.func9, Tryz.ntmps9
  go_wp2_with fail
  go_loopg [5] n (fun gg iv wr => ∃ i : Nat, iv = .int .i64 i ∧ i ≤ n ∧ gg = n - i ∧ Hid (Below g w wr))
  case atStart => exact ⟨0, rfl, Nat.zero_le _, rfl, hid (Below.refl _ _)⟩
  case round =>
    obtain ⟨i, rfl, hi, hk, HB⟩ := hrel
    by_cases hlt : i < n
    · have hlti : (i : Int) < (n : Int) := by omega
      obtain ⟨⟨b, off, hae⟩, ⟨b2, off2, hae2⟩⟩ := HFA.out (by omega)
      subst hae
      subst hae2
      have hil : i < l.length := by rw [HN.out]; exact hlt
      obtain ⟨x, HX⟩ : ∃ x, Hid (l.getD i f0 = x) := ⟨_, rfl⟩
      have HW : Hid (IdW x.id) := hid (by rw [← HX.out]; exact HWY.out _ (getD_mem l i f0 hil))
      obtain ⟨X, HXX⟩ : ∃ S : ByteArray, Hid ((⟨x.path.toArray⟩ : ByteArray) = S) := ⟨_, rfl⟩
      obtain ⟨md, HMD⟩ : ∃ m, Hid (x.mode = m) := ⟨_, rfl⟩
      obtain ⟨IR, HIR⟩ := rw_ HW.out.1
      have hiX := HIR.out.i56
      have hiX2 := HIR.out.i31
      have HBd : Hid (Below g w wr.drew) := hid (below_drewH HB.out 1)
      have hS : Qs b (off + i * 24) b2 (off2 + i * 24) md X IR wr.drew := by
        obtain ⟨b', o', e1, _, e3⟩ := (HPW.out _ HBd.out).at_ (by omega)
        cases e1
        obtain ⟨b'', o'', e1, _, e3'⟩ := (HPW2.out _ HBd.out).at_ (by omega)
        cases e1
        have q1 := e3 i hil
        have q2 := e3' i hil
        rw [HX.out] at q1 q2
        have c1 := cells_F HW.out.1 q1
        have c2 := cells_F HW.out.1 q2
        rw [HXX.out, HMD.out, HIR.out.e] at c1 c2
        exact ⟨c1.1, c1.2.1, c1.2.2.1, c1.2.2.2.1, c1.2.2.2.2, c2.1, c2.2.1, c2.2.2.1, c2.2.2.2.1, c2.2.2.2.2⟩
      have heq : ∀ W : World, (Op.equalIn 10000 24 (.agg IR.toArray) (.agg IR.toArray)).run Tryz.prog W = .ok true W := fun W => by
        have := eq24 x.id x.id HW.out.1 HW.out.1 W
        unfold idV at this
        rw [HIR.out.e, decide_eq_true rfl] at this
        exact this
      clear hil
      go_wp2_with fail
      refine wp_region_held_drew (S := Qs b (off + i * 24) b2 (off2 + i * 24) md X IR) (by kernel_rfl) hS (fun hHeld => ?_)
      generalize wr.drew = wd at hHeld HBd ⊢
      clear hS
      refine takeY (i := 0) (v := ?_) hHeld ?_ ?_
      rotate_left
      · rintro w' ⟨d0, d1, d2, d3, d4, e0, e1, e2, e3, e4⟩; go_simp; rfl
      try simp only [Act.put, sL]
      refine takeY (i := 1) (v := ?_) hHeld ?_ ?_
      rotate_left
      · rintro w' ⟨d0, d1, d2, d3, d4, e0, e1, e2, e3, e4⟩; go_simp; rfl
      try simp only [Act.put, sL]
      refine takeY (i := 2) (v := ?_) hHeld ?_ ?_
      rotate_left
      · rintro w' ⟨d0, d1, d2, d3, d4, e0, e1, e2, e3, e4⟩; go_simp; rfl
      try simp only [Act.put, sL]
      refine takeY (i := 3) (v := ?_) hHeld ?_ ?_
      rotate_left
      · rintro w' ⟨d0, d1, d2, d3, d4, e0, e1, e2, e3, e4⟩; go_simp; rfl
      try simp only [Act.put, sL]
      refine takeY (i := 4) (v := ?_) hHeld ?_ ?_
      rotate_left
      · rintro w' ⟨d0, d1, d2, d3, d4, e0, e1, e2, e3, e4⟩; go_simp; rfl
      try simp only [Act.put, sL]
      refine takeY (i := 5) (v := ?_) hHeld ?_ ?_
      rotate_left
      · rintro w' ⟨d0, d1, d2, d3, d4, e0, e1, e2, e3, e4⟩; go_simp; rfl
      try simp only [Act.put, sL]
      refine takeY (i := 6) (v := ?_) hHeld ?_ ?_
      rotate_left
      · rintro w' ⟨d0, d1, d2, d3, d4, e0, e1, e2, e3, e4⟩; go_simp; rfl
      try simp only [Act.put, sL]
      refine takeY (i := 7) (v := ?_) hHeld ?_ ?_
      rotate_left
      · rintro w' ⟨d0, d1, d2, d3, d4, e0, e1, e2, e3, e4⟩; go_simp; rfl
      try simp only [Act.put, sL]
      refine takeY (i := 8) (v := ?_) hHeld ?_ ?_
      rotate_left
      · rintro w' ⟨d0, d1, d2, d3, d4, e0, e1, e2, e3, e4⟩; go_simp; rfl
      try simp only [Act.put, sL]
      refine takeY (i := 9) (v := ?_) hHeld ?_ ?_
      rotate_left
      · rintro w' ⟨d0, d1, d2, d3, d4, e0, e1, e2, e3, e4⟩; go_simp; rfl
      try simp only [Act.put, sL]
      refine takeY (i := 10) (v := .bool false) hHeld ?_ ?_
      · rintro w' ⟨d0, d1, d2, d3, d4, e0, e1, e2, e3, e4⟩; go_simp; try rfl
      try simp only [Act.put, sL]
      refine takeY (i := 11) (v := ?_) hHeld ?_ ?_
      rotate_left
      · rintro w' ⟨d0, d1, d2, d3, d4, e0, e1, e2, e3, e4⟩; go_simp; rfl
      try simp only [Act.put, sL]
      refine takeG (i := 12) (v := ?_) hHeld ?_ ?_
      rotate_left
      · rintro w' ⟨d0, d1, d2, d3, d4, e0, e1, e2, e3, e4⟩; go_simp; rfl
      try simp only [Act.put, sL]
      refine takeG (i := 13) (v := ?_) hHeld ?_ ?_
      rotate_left
      · rintro w' ⟨d0, d1, d2, d3, d4, e0, e1, e2, e3, e4⟩; go_simp; rfl
      try simp only [Act.put, sL]
      refine takeG (i := 14) (v := ?_) hHeld ?_ ?_
      rotate_left
      · rintro w' ⟨d0, d1, d2, d3, d4, e0, e1, e2, e3, e4⟩; go_simp; rfl
      try simp only [Act.put, sL]
      refine takeG (i := 15) (v := ?_) hHeld ?_ ?_
      rotate_left
      · rintro w' ⟨d0, d1, d2, d3, d4, e0, e1, e2, e3, e4⟩; go_simp; rfl
      try simp only [Act.put, sL]
      refine takeG (i := 16) (v := ?_) hHeld ?_ ?_
      rotate_left
      · rintro w' ⟨d0, d1, d2, d3, d4, e0, e1, e2, e3, e4⟩; go_simp; rfl
      try simp only [Act.put, sL]
      refine takeG (i := 17) (v := ?_) hHeld ?_ ?_
      rotate_left
      · rintro w' ⟨d0, d1, d2, d3, d4, e0, e1, e2, e3, e4⟩; go_simp; rfl
      try simp only [Act.put, sL]
      refine takeG (i := 18) (v := ?_) hHeld ?_ ?_
      rotate_left
      · rintro w' ⟨d0, d1, d2, d3, d4, e0, e1, e2, e3, e4⟩; go_simp; rfl
      try simp only [Act.put, sL]
      refine takeG (i := 19) (v := ?_) hHeld ?_ ?_
      rotate_left
      · rintro w' ⟨d0, d1, d2, d3, d4, e0, e1, e2, e3, e4⟩; go_simp; rfl
      try simp only [Act.put, sL]
      refine takeG (i := 20) (v := ?_) hHeld ?_ ?_
      rotate_left
      · rintro w' ⟨d0, d1, d2, d3, d4, e0, e1, e2, e3, e4⟩; go_simp; rfl
      try simp only [Act.put, sL]
      refine takeG (i := 21) (v := ?_) hHeld ?_ ?_
      rotate_left
      · rintro w' ⟨d0, d1, d2, d3, d4, e0, e1, e2, e3, e4⟩; go_simp; rfl
      try simp only [Act.put, sL]
      refine takeG (i := 22) (v := .bool false) hHeld ?_ ?_
      · rintro w' ⟨d0, d1, d2, d3, d4, e0, e1, e2, e3, e4⟩; go_simp; try rfl
      try simp only [Act.put, sL]
      refine takeY (i := 23) (v := .bool false) hHeld ?_ ?_
      · rintro w' ⟨d0, d1, d2, d3, d4, e0, e1, e2, e3, e4⟩; go_simp; try rfl
      try simp only [Act.put, sL]
      refine takeY (i := 24) (v := ?_) hHeld ?_ ?_
      rotate_left
      · rintro w' ⟨d0, d1, d2, d3, d4, e0, e1, e2, e3, e4⟩; go_simp; rfl
      try simp only [Act.put, sL]
      refine takeG (i := 25) (v := ?_) hHeld ?_ ?_
      rotate_left
      · rintro w' ⟨d0, d1, d2, d3, d4, e0, e1, e2, e3, e4⟩; go_simp; rfl
      try simp only [Act.put, sL]
      refine takeG (i := 26) (v := ?_) hHeld ?_ ?_
      rotate_left
      · rintro w' ⟨d0, d1, d2, d3, d4, e0, e1, e2, e3, e4⟩; go_simp; rfl
      try simp only [Act.put, sL]
      refine takeG (i := 27) (v := ?_) hHeld ?_ ?_
      rotate_left
      · rintro w' ⟨d0, d1, d2, d3, d4, e0, e1, e2, e3, e4⟩; go_simp; rfl
      try simp only [Act.put, sL]
      refine takeG (i := 28) (v := ?_) hHeld ?_ ?_
      rotate_left
      · rintro w' ⟨d0, d1, d2, d3, d4, e0, e1, e2, e3, e4⟩; go_simp; rfl
      try simp only [Act.put, sL]
      refine takeL (i := 29) (v := .agg IR.toArray) rfl (by kernel_rfl) (by kernel_rfl) (by kernel_rfl) (fun _ _ _ h => h) (yieldsIf_load_mid (by kernel_rfl) 24 _ rfl b (off + i * 24 + 2) (by rfl) IR _ (fun w' h => h.d4) Tryz.underlying24 rfl hiX) hHeld ?_
      try simp only [Act.put, sL]
      refine takeG (i := 30) (v := ?_) hHeld ?_ ?_
      rotate_left
      · rintro w' ⟨d0, d1, d2, d3, d4, e0, e1, e2, e3, e4⟩; go_simp; rfl
      try simp only [Act.put, sL]
      refine takeG (i := 31) (v := ?_) hHeld ?_ ?_
      rotate_left
      · rintro w' ⟨d0, d1, d2, d3, d4, e0, e1, e2, e3, e4⟩; go_simp; rfl
      try simp only [Act.put, sL]
      refine takeG (i := 32) (v := ?_) hHeld ?_ ?_
      rotate_left
      · rintro w' ⟨d0, d1, d2, d3, d4, e0, e1, e2, e3, e4⟩; go_simp; rfl
      try simp only [Act.put, sL]
      refine takeG (i := 33) (v := ?_) hHeld ?_ ?_
      rotate_left
      · rintro w' ⟨d0, d1, d2, d3, d4, e0, e1, e2, e3, e4⟩; go_simp; rfl
      try simp only [Act.put, sL]
      refine takeL (i := 34) (v := .agg IR.toArray) rfl (by kernel_rfl) (by kernel_rfl) (by kernel_rfl) (fun _ _ _ h => h) (yieldsIf_load_mid (by kernel_rfl) 23 _ rfl b2 (off2 + i * 24 + 2) (by rfl) IR _ (fun w' h => h.e4) Tryz.underlying23 rfl hiX2) hHeld ?_
      try simp only [Act.put, sL]
      refine takeG (i := 35) (v := .bool false) hHeld ?_ ?_
      · rintro w' ⟨d0, d1, d2, d3, d4, e0, e1, e2, e3, e4⟩; go_simp; try rfl
      try simp only [Act.put, sL]
      refine takeY (i := 36) (v := .bool false) hHeld ?_ ?_
      · rintro w' ⟨d0, d1, d2, d3, d4, e0, e1, e2, e3, e4⟩; go_simp; try rfl
      try simp only [Act.put, sL]
      refine takeY (i := 37) (v := ?_) hHeld ?_ ?_
      rotate_left
      · rintro w' ⟨d0, d1, d2, d3, d4, e0, e1, e2, e3, e4⟩; go_simp; rfl
      try simp only [Act.put, sL]
      refine takeG (i := 38) (v := ?_) hHeld ?_ ?_
      rotate_left
      · rintro w' ⟨d0, d1, d2, d3, d4, e0, e1, e2, e3, e4⟩; go_simp; rfl
      try simp only [Act.put, sL]
      refine takeG (i := 39) (v := ?_) hHeld ?_ ?_
      rotate_left
      · rintro w' ⟨d0, d1, d2, d3, d4, e0, e1, e2, e3, e4⟩; go_simp; rfl
      try simp only [Act.put, sL]
      refine takeG (i := 40) (v := ?_) hHeld ?_ ?_
      rotate_left
      · rintro w' ⟨d0, d1, d2, d3, d4, e0, e1, e2, e3, e4⟩; go_simp; rfl
      try simp only [Act.put, sL]
      refine takeG (i := 41) (v := ?_) hHeld ?_ ?_
      rotate_left
      · rintro w' ⟨d0, d1, d2, d3, d4, e0, e1, e2, e3, e4⟩; go_simp; rfl
      try simp only [Act.put, sL]
      refine takeG (i := 42) (v := ?_) hHeld ?_ ?_
      rotate_left
      · rintro w' ⟨d0, d1, d2, d3, d4, e0, e1, e2, e3, e4⟩; go_simp; rfl
      try simp only [Act.put, sL]
      refine takeG (i := 43) (v := ?_) hHeld ?_ ?_
      rotate_left
      · rintro w' ⟨d0, d1, d2, d3, d4, e0, e1, e2, e3, e4⟩; go_simp; rfl
      try simp only [Act.put, sL]
      refine takeG (i := 44) (v := ?_) hHeld ?_ ?_
      rotate_left
      · rintro w' ⟨d0, d1, d2, d3, d4, e0, e1, e2, e3, e4⟩; go_simp; rfl
      try simp only [Act.put, sL]
      refine takeG (i := 45) (v := ?_) hHeld ?_ ?_
      rotate_left
      · rintro w' ⟨d0, d1, d2, d3, d4, e0, e1, e2, e3, e4⟩; go_simp; rfl
      try simp only [Act.put, sL]
      refine takeG (i := 46) (v := ?_) hHeld ?_ ?_
      rotate_left
      · rintro w' ⟨d0, d1, d2, d3, d4, e0, e1, e2, e3, e4⟩; go_simp; rfl
      try simp only [Act.put, sL]
      refine takeG (i := 47) (v := ?_) hHeld ?_ ?_
      rotate_left
      · rintro w' ⟨d0, d1, d2, d3, d4, e0, e1, e2, e3, e4⟩; go_simp; rfl
      try simp only [Act.put, sL]
      refine takeG (i := 48) (v := .bool false) hHeld ?_ ?_
      · rintro w' ⟨d0, d1, d2, d3, d4, e0, e1, e2, e3, e4⟩; go_simp; try rfl
      try simp only [Act.put, sL]
      refine takeY (i := 49) (v := .bool false) hHeld ?_ ?_
      · rintro w' ⟨d0, d1, d2, d3, d4, e0, e1, e2, e3, e4⟩; go_simp; try rfl
      try simp only [Act.put, sL]
      refine takeY (i := 50) (v := ?_) hHeld ?_ ?_
      rotate_left
      · rintro w' ⟨d0, d1, d2, d3, d4, e0, e1, e2, e3, e4⟩; go_simp; rfl
      try simp only [Act.put, sL]
      refine takeG (i := 51) (v := ?_) hHeld ?_ ?_
      rotate_left
      · rintro w' ⟨d0, d1, d2, d3, d4, e0, e1, e2, e3, e4⟩; go_simp; rfl
      try simp only [Act.put, sL]
      refine takeG (i := 52) (v := ?_) hHeld ?_ ?_
      rotate_left
      · rintro w' ⟨d0, d1, d2, d3, d4, e0, e1, e2, e3, e4⟩; go_simp; rfl
      try simp only [Act.put, sL]
      refine takeG (i := 53) (v := ?_) hHeld ?_ ?_
      rotate_left
      · rintro w' ⟨d0, d1, d2, d3, d4, e0, e1, e2, e3, e4⟩; go_simp; rfl
      try simp only [Act.put, sL]
      refine takeG (i := 54) (v := ?_) hHeld ?_ ?_
      rotate_left
      · rintro w' ⟨d0, d1, d2, d3, d4, e0, e1, e2, e3, e4⟩; go_simp; rfl
      try simp only [Act.put, sL]
      refine takeG (i := 55) (v := ?_) hHeld ?_ ?_
      rotate_left
      · rintro w' ⟨d0, d1, d2, d3, d4, e0, e1, e2, e3, e4⟩; go_simp; rfl
      try simp only [Act.put, sL]
      refine takeG (i := 56) (v := ?_) hHeld ?_ ?_
      rotate_left
      · rintro w' ⟨d0, d1, d2, d3, d4, e0, e1, e2, e3, e4⟩; go_simp; rfl
      try simp only [Act.put, sL]
      refine takeG (i := 57) (v := ?_) hHeld ?_ ?_
      rotate_left
      · rintro w' ⟨d0, d1, d2, d3, d4, e0, e1, e2, e3, e4⟩; go_simp; rfl
      try simp only [Act.put, sL]
      refine takeG (i := 58) (v := ?_) hHeld ?_ ?_
      rotate_left
      · rintro w' ⟨d0, d1, d2, d3, d4, e0, e1, e2, e3, e4⟩; go_simp; rfl
      try simp only [Act.put, sL]
      refine takeG (i := 59) (v := ?_) hHeld ?_ ?_
      rotate_left
      · rintro w' ⟨d0, d1, d2, d3, d4, e0, e1, e2, e3, e4⟩; go_simp; rfl
      try simp only [Act.put, sL]
      refine takeG (i := 60) (v := ?_) hHeld ?_ ?_
      rotate_left
      · rintro w' ⟨d0, d1, d2, d3, d4, e0, e1, e2, e3, e4⟩; go_simp; rfl
      try simp only [Act.put, sL]
      refine takeG (i := 61) (v := .bool false) hHeld ?_ ?_
      · rintro w' ⟨d0, d1, d2, d3, d4, e0, e1, e2, e3, e4⟩; go_simp; try rfl
      try simp only [Act.put, sL]
      refine takeY (i := 62) (v := .bool false) hHeld ?_ ?_
      · rintro w' ⟨d0, d1, d2, d3, d4, e0, e1, e2, e3, e4⟩; go_simp; try rfl
      try simp only [Act.put, sL]
      refine wpAnyH_done (by kernel_rfl) ?_ _
      clear hHeld
      go_wp2
      go_roundg (n - (i + 1))
      case measure => omega
      case rel => exact ⟨i + 1, by go_num, by omega, rfl, HBd⟩
    · have hlti : ¬ (i : Int) < (n : Int) := by omega
      go_wp2
      go_ret
      exact ⟨rfl, by rw [HG.out]; exact HB.out⟩
end Go.Proofs.YtikmbjfambjmaaaGreatDoor.Gr
namespace Go.Proofs.YtikmbjfambjmaaaGreatDoor.Gr
open Go.RowKit
set_option linter.unusedVariables false
set_option linter.unusedSimpArgs false
theorem itE_long {go : List Int → List UInt8 → List It} {front : List UInt8} {e : Er} (h : 100 < (front ++ e.name).length) : itE go front e = [(71, f0)] := by unfold itE; rw [if_pos h]
theorem itE_dir {go : List Int → List UInt8 → List It} {front : List UInt8} {e : Er} (h : ¬ 100 < (front ++ e.name).length) (hm : e.mode = 16384) : itE go front e = go e.id (front ++ e.name ++ [47]) := by unfold itE; rw [if_neg h, if_pos hm]
theorem itE_file {go : List Int → List UInt8 → List It} {front : List UInt8} {e : Er} (h : ¬ 100 < (front ++ e.name).length) (hm : ¬ e.mode = 16384) : itE go front e = [(0, ⟨front ++ e.name, e.mode, e.id⟩)] := by unfold itE; rw [if_neg h, if_neg hm]
theorem exec_bd3 {P : Program} {o : Oper} {a : Act} {w w' : World} (t : Nat) (x y z : Operand) (ho : o.op = .build t #[(0, x), (1, y), (2, z)]) (u1 u2 u3 v : Value) (h1 : a.eval x = u1) (h2 : a.eval y = u2) (h3 : a.eval z = u3) (hr : (Instr.build t #[(0, u1), (1, u2), (2, u3)]).run P w = .ok v w') : (execOp a.eval o).run P w = .ok (.value v) w' := by
  unfold execOp
  simp [ho, h1, h2, h3, hr, Result.andThen]
structure Q23 (eb o : Nat) (md : Int) (IR : List Value) (W : World) : Prop where
  c0 : W.cell? ⟨eb, o, none⟩ = some (.int .i64 md)
  ri : W.rangeAt eb (o + 2) IR
set_option maxRecDepth 20000 in
set_option maxHeartbeats 16000000 in
theorem walk15_any (w0 : World) (B : Nat) (a : Option Addr) (cap : Nat) (os : List Oj) (R : Nat → Option (List Er)) (hR : Rx os R) (lk : Lks) (hlk : Lk os R lk) (hfo : Fo lk) (hO : Ow B w0 a cap os) (hn : os.length ≤ 60) (hl2 : ∀ o ∈ os, o.zs.length ≤ 20000) :
    ∀ (d : Nat) (x : List Int) (hx : IdW x) (front : List UInt8) (hf : front.length ≤ 101) (hd : 102 ≤ d + front.length) (v : Value) (acc : List Fe) (w : World) (hS : Bx encF 24 64 w0 w B v acc) (hI : IdF acc) (hac : acc.length ≤ 2000),
    Calls Tryz.prog 15 #[idV x, .string ⟨front.toArray⟩, .slice a os.length cap, v] w (PostW15 w0 B (itm lk d x front) acc w v) := by
  obtain ⟨n, HN⟩ : ∃ n, Hid (os.length = n) := ⟨_, rfl⟩
  have hnn : n ≤ 60 := by rw [← HN.out]; exact hn
  have HRX : Hid (Rx os R) := hR
  have HLK : Hid (Lk os R lk) := hlk
  have HFO : Hid (Fo lk) := hfo
  have HOW : Hid (Ow B w0 a cap os) := hO
  have HL2 : Hid (∀ o ∈ os, o.zs.length ≤ 20000) := hl2
  clear hR hlk hfo hO hl2
  intro d
  induction d with
  | zero => intro x hx front hf hd; omega
  | succ d ih =>
    intro x hx front hf hd v acc w hS hI hac
    have IH : Hid (∀ (x : List Int) (hx : IdW x) (front : List UInt8) (hf : front.length ≤ 101) (hd : 102 ≤ d + front.length) (v : Value) (acc : List Fe) (w : World) (hS : Bx encF 24 64 w0 w B v acc) (hI : IdF acc) (hac : acc.length ≤ 2000), Calls Tryz.prog 15 #[idV x, .string ⟨front.toArray⟩, .slice a os.length cap, v] w (PostW15 w0 B (itm lk d x front) acc w v)) := ih
    rw [HN.out] at IH
    clear ih
    obtain ⟨va, vc, rfl⟩ := owns_shape hS.own
    obtain ⟨ns, HNS⟩ : ∃ n, Hid (acc.length = n) := ⟨_, rfl⟩
    obtain ⟨v, HV⟩ : ∃ v, Hid (Value.slice va ns vc = v) := ⟨_, rfl⟩
    have HXI : Hid (IdW x) := hx
    obtain ⟨G, HG⟩ : ∃ G, Hid (w.heap.size = G) := ⟨_, rfl⟩
    have HBS : Hid (Bx encF 24 64 w0 w B v acc) := hid (by rw [← HV.out, ← HNS.out]; exact hS)
    have hBG : B ≤ G := by rw [← HG.out]; exact hS.le
    have HIF : Hid (IdF acc) := hI
    have hns : ns ≤ 2000 := by rw [← HNS.out]; exact hac
    obtain ⟨X, HX⟩ := rw_ hx.1
    have hiX := HX.out.i31
    obtain ⟨FS, HFS⟩ : ∃ S : ByteArray, Hid ((⟨front.toArray⟩ : ByteArray) = S) := ⟨_, rfl⟩
    obtain ⟨fl, HFL⟩ : ∃ n, Hid (front.length = n) := ⟨_, rfl⟩
    have hfs : FS.size = fl := by rw [← HFS.out, ← HFL.out]; simp [ByteArray.size]
    have hfl : fl ≤ 101 := by rw [← HFL.out]; exact hf
    have hfd : 102 ≤ d + 1 + fl := by rw [← HFL.out]; exact hd
    obtain ⟨its, HIT⟩ : ∃ l, Hid (itm lk (d + 1) x front = l) := ⟨_, rfl⟩
    obtain ⟨w1, HW1⟩ : ∃ u, Hid (w.alloc (.cells X.toArray 23) = u) := ⟨_, rfl⟩
    have HB1 : Hid (Below G w w1) := hid (by rw [← HW1.out, ← HG.out]; exact (Below.refl _ w).alloc (Nat.le_refl _) _)
    have HX1 : Hid (w1.heap[G]? = some (.cells X.toArray 23 (0, 0))) := hid (by rw [← HW1.out, ← HG.out]; exact heap_alloc_new w _)
    obtain ⟨zr, HZ⟩ : ∃ zr : Array Value, Hid ((row .u8 z20).toArray = zr) := ⟨_, rfl⟩
    have hz23 : ∀ w : World, (zeroValue 23).run Tryz.prog w = .ok (.agg zr) w := fun w => by rw [← HZ.out]; kernel_rfl
    unfold idV
    rw [HX.out.e, HN.out, HNS.out, HFS.out, HIT.out]
    clear hS hI hac hx hf hd
    go_enter Tryz.func15, Tryz.ntmps15
    go_wp2_with fail
    rw [HW1.out, HG.out]
    go_loopg [3, 10] n (fun g u iv wr => ∃ i : Nat, u = .slice va ns vc ∧ iv = .int .i64 i ∧ g = n - i ∧ i ≤ n ∧ Hid (Below G w wr) ∧ Hid (wr.heap[G]? = some (.cells X.toArray 23 (0, 0))) ∧ Hid (∀ j, j < i → ¬ HitT os R x j))
    case atStart => exact ⟨0, rfl, rfl, by omega, by omega, HB1, HX1, hid (fun j hj => by omega)⟩
    case round =>
      obtain ⟨i, rfl, rfl, hg, hin, HB, HXB, HJ⟩ := hrel
      have hGr : G < wr.heap.size := lt_of_some HXB.out
      by_cases hlt : i < n
      · have hlti : (i : Int) < (n : Int) := by omega
        have HBw : Hid (Below B w0 wr) := hid (HBS.out.below.trans (HB.out.mono hBG))
        obtain ⟨b, off, ha, hr, hom⟩ := HOW.out.at HBw.out (i := i) (by rw [HN.out]; exact hlt)
        subst ha
        obtain ⟨o, HOi⟩ : ∃ o, Hid (os.getD i dO = o) := ⟨_, rfl⟩
        rw [HOi.out] at hr hom
        have HOM : Hid (o ∈ os) := hom
        obtain ⟨RO, HRO⟩ : ∃ S : List Value, Hid (encO o = S) := ⟨_, rfl⟩
        have RR : Hid (wr.rangeAt b (off + i * 2) RO) := hid (by rw [← HRO.out]; exact hr)
        have hi35 : (Tryz.prog.info? 35).map (·.size) = some RO.length := by rw [← HRO.out]; exact info35
        obtain ⟨er, HER⟩ : ∃ er, Hid (oer o = er) := ⟨_, rfl⟩
        obtain ⟨FR, HFR⟩ := rw_ (oid_w o).1
        have hiF := HFR.out.i31
        have E31 : Hid (zr.size = FR.toArray.size) := hid (by rw [← HZ.out]; exact HFR.out.z)
        have CID : Hid (Calls Tryz.prog 6 #[.agg RO.toArray] wr fun e w' => e = .returned (.tuple #[.agg FR.toArray, .int .i64 er]) ∧ Below wr.heap.size wr w') :=
          refID_o o wr ((HOW.out.all wr HBw.out).len o hom) ((HOW.out.all wr HBw.out).isb o hom) ((HOW.out.all wr HBw.out).sl o hom) HFR.out HRO.out HER.out
        clear hr hom
        go_wp2_with (first
          | refine wpList_load_mid rfl 35 _ rfl b (off + i * 2) rfl RO _ RR.out Tryz.underlying35 rfl hi35 ?_
          | fail)
        refine CID.out.mono ?_
        rintro ev w2 ⟨rfl, hb2⟩
        obtain ⟨H, w3, HN3⟩ := nw 23 zr w2 FR
        have hb3 : Below wr.heap.size wr w3 := hb2.trans (HN3.out.below.mono (by rw [← HN3.out.h]; exact hb2.size))
        have HB3 : Hid (Below G w w3) := hid (HB.out.trans (hb3.mono (Nat.le_of_lt hGr)))
        have HX3 : Hid (w3.heap[G]? = some (.cells X.toArray 23 (0, 0))) := hid ((hb3.block G hGr).trans HXB.out)
        have RX3 : Hid (w3.rangeAt G 0 X) := hid (range_row HX3.out)
        have R3 : Hid (w3.rangeAt H 0 FR) := hid HN3.out.at
        have HBw3 : Hid (Below B w0 w3) := hid (HBS.out.below.trans (HB3.out.mono hBG))
        obtain ⟨kd, HKD⟩ : ∃ k, Hid (o.k = k) := ⟨_, rfl⟩
        obtain ⟨ol, HOL⟩ : ∃ k, Hid (o.zs.length = k) := ⟨_, rfl⟩
        have hcs : w3.cell? ⟨b, off + i * 2, none⟩ = some (.int .i64 kd) ∧ w3.cell? ⟨b, off + i * 2 + 1, none⟩ = some (.slice o.a ol o.cap) := by
          obtain ⟨b', off', e1, h1, _⟩ := HOW.out.at HBw3.out (i := i) (by rw [HN.out]; exact hlt)
          cases e1
          rw [HOi.out] at h1
          have := cells_O h1
          rw [HKD.out, HOL.out] at this
          exact this
        obtain ⟨hc0, hc1⟩ := hcs
        have HEQ : Hid (∀ V : World, (Op.equalIn 10000 23 (.agg FR.toArray) (.agg X.toArray)).run Tryz.prog V = .ok (decide (oid o = x)) V) := fun V => by rw [← HFR.out.e, ← HX.out.e]; exact eq41 _ _ (oid_w o).1 HXI.out.1 V
        have HNX : Hid (∀ p : Prop, (HitT os R x i → False) → (∀ j, j < i + 1 → ¬ HitT os R x j)) := fun p hp j hj => by
          rcases Nat.lt_or_ge j i with h | h
          · exact HJ.out j h
          · have e : j = i := by omega
            rw [e]; exact hp
        clear hb2 hb3
        by_cases her : er = 0
        · subst her
          by_cases hxo : oid o = x
          · have heq : ∀ V : World, (Op.equalIn 10000 23 (.agg FR.toArray) (.agg X.toArray)).run Tryz.prog V = .ok true V := fun V => by rw [HEQ.out V, decide_eq_true hxo]
            have HXO : Hid (oid o = x) := hxo
            by_cases hk2 : kd = 2
            · subst hk2
              obtain ⟨K3, HK3⟩ : ∃ K, Hid (w3.heap.size = K) := ⟨_, rfl⟩
              have hGK3 : G < K3 := by rw [← HK3.out]; exact lt_of_some HX3.out
              have C26 : Hid (Calls Tryz.prog 26 #[.slice o.a ol o.cap] w3 fun e w' => Below K3 w3 w' ∧ ∃ a' c' ed b, e = .returned (.tuple #[.slice a' ed.length c', .bool b]) ∧ (b = false → R i = none) ∧ (b = true → R i = some ed ∧ (∀ p : Addr, a' = some p → K3 ≤ p.block) ∧ Px erV 22 ⟨0, [], []⟩ w' a' c' ed ∧ WfE ed)) := hid (by
                have := refTree_o os R HRX.out i (by rw [HN.out]; exact hlt) o HOi.out HKD.out w3 (HL2.out o HOM.out) ((HOW.out.all w3 HBw3.out).isb o HOM.out) ((HOW.out.all w3 HBw3.out).sl o HOM.out)
                rw [HOL.out, HK3.out] at this
                exact this)
              clear hxo
              go_wp2_with (first
                | (refine wpList_store_row rfl 23 _ _ rfl w2.heap.size FR.toArray rfl rfl 23 zr HN3.out.d HFR.out.j31 E31.out HFR.out.o ?_; rw [HN3.out.w, HN3.out.h])
                | (refine BigFrame.wpList_want (by rfl) (fun KK hKK => ?_); refine wp_load_mid 23 _ rfl H 0 rfl FR _ R3.out Tryz.underlying23 rfl hiF ?_; refine hKK _ _ ?_; clear hKK KK)
                | (refine BigFrame.wpList_want (by rfl) (fun KK hKK => ?_); refine wp_load_mid 23 _ rfl G 0 rfl X _ RX3.out Tryz.underlying23 rfl hiX ?_; refine hKK _ _ ?_; clear hKK KK)
                | fail)
              refine C26.out.mono ?_
              rintro ev w4 ⟨hb4, ea, ec, es, bb, rfl, hbf, hbt⟩
              have HB4 : Hid (Below G w w4) := hid (HB3.out.trans (hb4.mono (by omega)))
              have HX4 : Hid (w4.heap[G]? = some (.cells X.toArray 23 (0, 0))) := hid ((hb4.block G hGK3).trans HX3.out)
              have HBw4 : Hid (Below B w0 w4) := hid (HBS.out.below.trans (HB4.out.mono hBG))
              have hK4 : K3 ≤ w4.heap.size := by rw [← HK3.out]; exact hb4.size
              clear hb4
              cases bb with
              | false =>
                have HJ2 : Hid (∀ j, j < i + 1 → ¬ HitT os R x j) := hid (HNX.out True (fun h => h.2.2.2 (hbf rfl)))
                clear hbf hbt
                go_wp2
                go_roundg (n - (i + 1))
                case measure => omega
                case rel => exact ⟨i + 1, rfl, by go_num, rfl, by omega, HB4, HX4, HJ2⟩
              | true =>
                obtain ⟨hRi, hea, hpe, hwe⟩ := hbt rfl
                have HRI : Hid (lk x = some es) := hid (by
                  rw [← hRi]
                  exact HLK.out.of x i (by rw [HN.out]; exact hlt) ⟨by rw [HOi.out]; exact HKD.out, by rw [HOi.out]; exact HER.out, by rw [HOi.out]; exact HXO.out, by rw [hRi]; simp⟩)
                have HEA : Hid (∀ p : Addr, ea = some p → K3 ≤ p.block) := hea
                have HPE : Hid (Px erV 22 ⟨0, [], []⟩ w4 ea ec es) := hpe
                have HOKL : Hid (okL es) := hid (HFO.out.ok x es HRI.out)
                have HWE : Hid (WfE es) := hwe
                obtain ⟨ne, HNE⟩ : ∃ n, Hid (es.length = n) := ⟨_, rfl⟩
                have hne : ne ≤ 1000 := by rw [← HNE.out]; exact HRX.out.few i es hRi
                rw [HNE.out]
                clear hbf hbt hRi hea hpe hwe
                have HLV : Hid (∀ p : Addr, ea = some p → some p.block ≠ v.ownBlock) := hid (fun p hp e => by
                  have h1 := HEA.out p hp
                  have h2 := (own_lt HBS.out.own p.block e.symm).2
                  rw [HG.out] at h2
                  omega)
                have HM4 : Hid (Mv w w4 v v) := hid (Mv.grow v (grown_of_below (by rw [HG.out]; exact HB4.out) _))
                have HV4 : Hid (Bx encF 24 64 w0 w4 B v acc) := hid (HBS.out.carry (by rw [HG.out]; exact HB4.out))
                by_cases hem : ne = 0 ∧ front ≠ []
                · obtain ⟨h0e, hfn⟩ := hem
                  subst h0e
                  have HES : Hid (es = []) := hid (List.length_eq_zero_iff.1 HNE.out)
                  have hfe : FS.toList.isEmpty = false := by
                    rw [← HFS.out, Lib.toList_data]
                    cases front with
                    | nil => exact absurd rfl hfn
                    | cons _ _ => rfl
                  have HE21 : Hid (∀ r, sc (its ++ r) acc = (21, [])) := hid (fun r => by
                    have hf2 : front.isEmpty = false := by cases front with
                      | nil => exact absurd rfl hfn
                      | cons _ _ => rfl
                    rw [← HIT.out, itm, HRI.out]
                    simp only
                    rw [HES.out, if_pos (by rw [hf2]; rfl)]
                    rfl)
                  go_wp2
                  go_ret2
                  rw [HV.out]
                  exact post15_err (by decide) HBw4.out (by omega) ⟨v, HM4.out⟩ HE21.out
                · have HIS : Hid (its = es.flatMap (itE (itm lk d) front)) := hid (by
                    rw [← HIT.out, itm, HRI.out]
                    simp only
                    rw [if_neg ?_]
                    intro h
                    rw [Bool.and_eq_true] at h
                    refine hem ⟨by rw [← HNE.out, List.isEmpty_iff.1 h.1]; rfl, fun e => ?_⟩
                    rw [e] at h
                    cases h.2)
                  have HPA : Hid (0 < ne → ∃ b off, ea = some ⟨b, off, none⟩) := fun h0 => by
                    obtain ⟨b, off, e1, _⟩ := HPE.out.at_ (by rw [HNE.out]; exact h0)
                    exact ⟨b, off, e1⟩
                  have hgo : (ne = 0 → FS = (⟨#[]⟩ : ByteArray)) := fun h => by
                    rw [← HFS.out]
                    have : front = [] := by
                      by_cases hf : front = []
                      · exact hf
                      · exact absurd ⟨h, hf⟩ hem
                    rw [this]
                  have C8 : Hid ((ne : Int) = 0 → FS.toList.isEmpty = true) := hid (fun h => by rw [hgo (by omega), Lib.toList_data]; rfl)
                  have HINV0 : Hid (∀ r, sc (its ++ r) acc = sc ((es.drop 0).flatMap (itE (itm lk d) front) ++ r) acc) := hid (fun r => by rw [HIS.out]; rfl)
                  have merge8 : ((ne : Int) == 0 && !FS.toList.isEmpty) = false := by
                    by_cases h : (ne : Int) = 0
                    · rw [C8.out h]; simp
                    · have : ((ne : Int) == 0) = false := by rw [beq_eq_false_iff_ne]; exact h
                      rw [this]; rfl
                  clear hgo
                  by_cases h0e : ne = 0
                  · subst h0e
                    have hfe : FS.toList.isEmpty = true := C8.out rfl
                    have HES : Hid (es = []) := hid (List.length_eq_zero_iff.1 HNE.out)
                    go_wp2_with fail
                    go_loopg [3, 15] 0 (fun g u kv W => u = .slice va ns vc ∧ kv = .int .i64 0 ∧ W = w4)
                    case atStart => exact ⟨rfl, rfl, rfl⟩
                    case round =>
                      obtain ⟨rfl, rfl, rfl⟩ := hrel
                      go_wp2
                      go_ret2
                      rw [HV.out]
                      exact ⟨0, v, acc, rfl, HV4.out, HM4.out, HIF.out, by rw [HNS.out]; exact hns, fun _ r => by rw [HIS.out, HES.out]; rfl, fun h => absurd rfl h⟩
                  · have hneb : ((ne : Int) == 0) = false := by rw [beq_eq_false_iff_ne]; omega
                    go_wp2_with fail
                    go_loopg [3, 15] ne (fun g u kv W => ∃ (k : Nat) (ai : Option Addr) (ni ci : Nat) (acci : List Fe), u = .slice ai ni ci ∧ kv = .int .i64 k ∧ g = ne - k ∧ k ≤ ne ∧ ni ≤ 2000 ∧ Hid (acci.length = ni) ∧ Hid (Bx encF 24 64 w0 W B (.slice ai ni ci) acci) ∧ Hid (Mv w4 W v (.slice ai ni ci)) ∧ Hid (IdF acci) ∧ Hid (∀ r, sc (its ++ r) acc = sc ((es.drop k).flatMap (itE (itm lk d) front) ++ r) acci))
                    case atStart => exact ⟨0, va, ns, vc, acc, rfl, rfl, by omega, by omega, hns, HNS, hid (by rw [HV.out]; exact HV4.out), hid (by rw [HV.out]; exact Mv.refl _ _), HIF, HINV0⟩
                    case round =>
                      obtain ⟨k, ai, ni, ci, acci, rfl, rfl, hgk, hkn, hni, HNI, HBI, HMI, HII, HIV⟩ := hrel
                      obtain ⟨vi, HVI⟩ : ∃ v, Hid (Value.slice ai ni ci = v) := ⟨_, rfl⟩
                      rw [HVI.out] at HBI HMI
                      have HBwr : Hid (Below B w0 wr) := hid HBI.out.below
                      have HBle : Hid (B ≤ wr.heap.size) := hid HBI.out.le
                      have HMW : Hid (Mv w wr v vi) := hid (HM4.out.trans HMI.out)
                      by_cases hkl : k < ne
                      · have hkli : (k : Int) < (ne : Int) := by omega
                        obtain ⟨eb, eo, hea⟩ := HPA.out (by omega)
                        subst hea
                        obtain ⟨e, HE⟩ : ∃ e, Hid (es.getD k ⟨0, [], []⟩ = e) := ⟨_, rfl⟩
                        have HEM : Hid (e ∈ es) := hid (by rw [← HE.out]; exact getD_mem es k _ (by rw [HNE.out]; exact hkl))
                        have HPW : Hid (∀ V vj, Mv w4 V v vj → V.rangeAt eb (eo + k * 22) (erV e)) := fun V vj hV => by
                          obtain ⟨b', off', e1, _, e3⟩ := (HPE.out.mv hV HLV.out).at_ (by rw [HNE.out]; omega)
                          cases e1
                          have := e3 k (by rw [HNE.out]; exact hkl)
                          rw [HE.out] at this
                          exact this
                        obtain ⟨md, HMD⟩ : ∃ m, Hid (e.mode = m) := ⟨_, rfl⟩
                        obtain ⟨NS, HNM⟩ : ∃ S : ByteArray, Hid ((⟨e.name.toArray⟩ : ByteArray) = S) := ⟨_, rfl⟩
                        obtain ⟨nl, HNL⟩ : ∃ n, Hid (e.name.length = n) := ⟨_, rfl⟩
                        have hnsz : NS.size = nl := by rw [← HNM.out, ← HNL.out]; simp [ByteArray.size]
                        have hnl : nl ≤ 50 := by rw [← HNL.out]; exact (HOKL.out.1 e HEM.out).2.2.1
                        obtain ⟨IR, HIR⟩ := rw_ (HWE.out e HEM.out).1
                        have hiI := HIR.out.i31
                        have HCE : Hid (∀ V vj, Mv w4 V v vj → V.cell? ⟨eb, eo + k * 22, none⟩ = some (.int .i64 md) ∧ V.cell? ⟨eb, eo + k * 22 + 1, none⟩ = some (.string NS) ∧ V.rangeAt eb (eo + k * 22 + 2) IR) := fun V vj hV => by
                          have := cells_E (HPW.out V vj hV)
                          rw [HMD.out, HNM.out, HIR.out.e] at this
                          exact this
                        obtain ⟨hec0, hec1, hec2⟩ := HCE.out wr vi HMI.out
                        have RI : Hid (wr.rangeAt eb (eo + k * 22 + 2) IR) := hec2
                        clear hec2
                        obtain ⟨PL, HPL⟩ : ∃ l : List UInt8, Hid (front ++ e.name = l) := ⟨_, hid rfl⟩
                        obtain ⟨PS, HPS⟩ : ∃ S : ByteArray, Hid ((⟨PL.toArray⟩ : ByteArray) = S) := ⟨_, rfl⟩
                        have hcat : FS ++ NS = PS := by rw [← HFS.out, ← HNM.out, ← HPS.out, ← HPL.out]; exact str_app _ _
                        obtain ⟨pl, HPN⟩ : ∃ n, Hid (PL.length = n) := ⟨_, rfl⟩
                        have hpsz : PS.size = pl := by rw [← HPS.out, ← HPN.out]; simp [ByteArray.size]
                        have HPV : Hid (pl = fl + nl) := hid (by rw [← HPN.out, ← HPL.out, List.length_append, HFL.out, HNL.out])
                        have hplm : pl ≤ 151 := by have := HPV.out; omega
                        have HES : Hid (∀ r, sc (its ++ r) acc = sc (itE (itm lk d) front e ++ ((es.drop (k + 1)).flatMap (itE (itm lk d) front) ++ r)) acci) := hid (fun r => by rw [HIV.out r, sc_entry (by rw [HNE.out]; exact hkl) HE.out])
                        by_cases hlong : 100 < pl
                        · have hli : (100 : Int) < (pl : Int) := by omega
                          have HE71 : Hid (∀ r, sc (its ++ r) acc = (71, [])) := hid (fun r => by
                            rw [HES.out r, itE_long (by rw [HPL.out, HPN.out]; exact hlong)]
                            rfl)
                          go_wp2
                          go_ret2
                          rw [HV.out]
                          exact post15_err (by decide) HBwr.out HBle.out ⟨vi, HMW.out⟩ HE71.out
                        · have hli : ¬ (100 : Int) < (pl : Int) := by omega
                          have HLN : Hid (¬ 100 < (front ++ e.name).length) := hid (by rw [HPL.out, HPN.out]; exact hlong)
                          by_cases hdir : md = 16384
                          · subst hdir
                            obtain ⟨DL, HDL⟩ : ∃ l : List UInt8, Hid (PL ++ [47] = l) := ⟨_, hid rfl⟩
                            obtain ⟨DS, HDS⟩ : ∃ S : ByteArray, Hid ((⟨DL.toArray⟩ : ByteArray) = S) := ⟨_, rfl⟩
                            have hcat2 : PS ++ (⟨#[47]⟩ : ByteArray) = DS := by rw [← HPS.out, ← HDS.out, ← HDL.out, show (⟨#[47]⟩ : ByteArray) = ⟨[47].toArray⟩ from rfl]; exact str_app _ _
                            have HED : Hid (itE (itm lk d) front e = itm lk d e.id DL) := hid (by rw [itE_dir HLN.out HMD.out, HPL.out, HDL.out])
                            have C15 : Hid (Calls Tryz.prog 15 #[.agg IR.toArray, .string DS, .slice (some ⟨b, off, none⟩) n cap, .slice ai ni ci] wr (PostW15 w0 B (itm lk d e.id DL) acci wr vi)) := hid (by
                              have h1 : DL.length = pl + 1 := by rw [← HDL.out, List.length_append, HPN.out]; rfl
                              have h2 := IH.out e.id (HWE.out e HEM.out) DL (by omega) (by have := HPV.out; have := (HOKL.out.1 e HEM.out).2.1; rw [HNL.out] at this; omega) vi acci wr HBI.out HII.out (by rw [HNI.out]; exact hni)
                              rw [HDS.out, ← HVI.out] at h2
                              unfold idV at h2
                              rw [HIR.out.e] at h2
                              rw [HVI.out] at h2 ⊢
                              exact h2)
                            go_wp2_with (first
                              | refine wpList_load_mid rfl 23 _ rfl eb (eo + k * 22 + 2) rfl IR _ RI.out Tryz.underlying23 rfl hiI ?_
                              | fail)
                            refine C15.out.mono ?_
                            rintro ev w5 ⟨er2, v5, acc5, rfl, hb5, hm5, hi5, hn5, h50, h51⟩
                            obtain ⟨a5, c5, hv5⟩ := owns_shape hb5.own
                            subst hv5
                            have HB5 : Hid (Bx encF 24 64 w0 w5 B (.slice a5 acc5.length c5) acc5) := hb5
                            have HM5 : Hid (Mv wr w5 vi (.slice a5 acc5.length c5)) := hm5
                            have HI5 : Hid (IdF acc5) := hi5
                            have H50 : Hid (er2 = 0 → ∀ r, sc (itm lk d e.id DL ++ r) acci = sc r acc5) := h50
                            have H51 : Hid (er2 ≠ 0 → ∀ r, sc (itm lk d e.id DL ++ r) acci = (er2, [])) := h51
                            obtain ⟨n5, HN5⟩ : ∃ n, Hid (acc5.length = n) := ⟨_, rfl⟩
                            have hn5' : n5 ≤ 2000 := by rw [← HN5.out]; exact hn5
                            rw [HN5.out] at HB5 HM5 ⊢
                            clear hb5 hm5 hi5 hn5 h50 h51
                            by_cases her2 : er2 = 0
                            · subst her2
                              have H5 : Hid (∀ r, sc (itm lk d e.id DL ++ r) acci = sc r acc5) := hid (H50.out rfl)
                              clear H50 H51
                              go_wp2
                              go_roundg (ne - (k + 1))
                              case measure => omega
                              case rel => exact ⟨k + 1, a5, n5, c5, acc5, rfl, by go_num, rfl, by omega, hn5', HN5, HB5, hid (HMI.out.trans HM5.out), HI5, hid (fun r => by rw [HES.out r, HED.out, H5.out])⟩
                            · have heb : (er2 == 0) = false := by rw [beq_eq_false_iff_ne]; exact her2
                              go_wp2
                              go_ret2
                              rw [HV.out]
                              exact post15_err her2 HB5.out.below HB5.out.le ⟨_, HMW.out.trans HM5.out⟩ (fun r => by rw [HES.out r, HED.out]; exact H51.out her2 _)
                          · have hdb : (md == 16384) = false := by rw [beq_eq_false_iff_ne]; exact hdir
                            obtain ⟨fe, HFE⟩ : ∃ f : Fe, Hid (⟨PL, md, e.id⟩ = f) := ⟨_, rfl⟩
                            have HEF : Hid (itE (itm lk d) front e = [(0, fe)]) := hid (by rw [itE_file HLN.out (by rw [HMD.out]; exact hdir), HPL.out, HMD.out, HFE.out])
                            by_cases hfull : 2000 ≤ ni
                            · have hfi : (2000 : Int) ≤ (ni : Int) := by omega
                              go_wp2
                              go_ret2
                              rw [HV.out]
                              exact post15_err (by decide) HBwr.out HBle.out ⟨vi, HMW.out⟩ (fun r => by
                                rw [HES.out r, HEF.out, List.singleton_append, sc, if_pos rfl, if_pos (by rw [HNI.out]; exact hfull)])
                            · have hfi : ¬ (2000 : Int) ≤ (ni : Int) := by omega
                              have HFI : Hid (IdF [fe]) := hid (fun f hf => by
                                have : f = fe := by simpa using hf
                                rw [this, ← HFE.out]
                                exact HWE.out e HEM.out)
                              have HMd : Hid (Mv w4 wr.drew v vi) := hid (HMI.out.drew 1)
                              have HBd : Hid (Bx encF 24 64 w0 wr.drew B vi acci) := hid (HBI.out.carry (below_drewH (Below.refl _ _) 1))
                              have hSd : Q23 eb (eo + k * 22) md IR wr.drew := ⟨(HCE.out _ _ HMd.out).1, (HCE.out _ _ HMd.out).2.2⟩
                              have HBU : Hid (∀ W : World, (Instr.build 64 #[(0, .string PS), (1, .int .i64 md), (2, .agg IR.toArray)]).run Tryz.prog W = .ok (.agg (encF fe).toArray) W) := fun W => by
                                have := run_build64 PS md e.id (HWE.out e HEM.out).1 W
                                rw [HIR.out.e] at this
                                rw [this, ← HFE.out]
                                unfold encF
                                simp only
                                rw [HPS.out, HIR.out.e]
                              have HMWd : Hid (Mv wr wr.drew vi vi) := hid ((Mv.refl wr vi).drew 1)
                              go_wp2_with fail
                              refine wp_region_held_drew (S := Q23 eb (eo + k * 22) md IR) (by kernel_rfl) hSd (fun hHeld => ?_)
                              clear hSd
                              generalize wr.drew = u0 at hHeld HMd HBd HMWd ⊢
                              refine takeY (i := 0) (v := ?_) hHeld ?_ ?_
                              rotate_left
                              · rintro w' ⟨c0, ri⟩; go_simp; rfl
                              try simp only [Act.put, sL]
                              refine takeY (i := 1) (v := ?_) hHeld ?_ ?_
                              rotate_left
                              · rintro w' ⟨c0, ri⟩; go_simp; rfl
                              try simp only [Act.put, sL]
                              refine takeY (i := 2) (v := ?_) hHeld ?_ ?_
                              rotate_left
                              · rintro w' ⟨c0, ri⟩; go_simp; rfl
                              try simp only [Act.put, sL]
                              refine takeY (i := 3) (v := ?_) hHeld ?_ ?_
                              rotate_left
                              · rintro w' ⟨c0, ri⟩; go_simp; rfl
                              try simp only [Act.put, sL]
                              refine takeY (i := 4) (v := ?_) hHeld ?_ ?_
                              rotate_left
                              · rintro w' ⟨c0, ri⟩; go_simp; rfl
                              try simp only [Act.put, sL]
                              refine takeY (i := 5) (v := ?_) hHeld ?_ ?_
                              rotate_left
                              · rintro w' ⟨c0, ri⟩; go_simp; rfl
                              try simp only [Act.put, sL]
                              refine takeY (i := 6) (v := ?_) hHeld ?_ ?_
                              rotate_left
                              · rintro w' ⟨c0, ri⟩; go_simp; rfl
                              try simp only [Act.put, sL]
                              refine takeY (i := 7) (v := ?_) hHeld ?_ ?_
                              rotate_left
                              · rintro w' ⟨c0, ri⟩; go_simp; rfl
                              try simp only [Act.put, sL]
                              refine takeY (i := 8) (v := ?_) hHeld ?_ ?_
                              rotate_left
                              · rintro w' ⟨c0, ri⟩; go_simp; rfl
                              try simp only [Act.put, sL]
                              refine takeY (i := 9) (v := ?_) hHeld ?_ ?_
                              rotate_left
                              · rintro w' ⟨c0, ri⟩; go_simp; rfl
                              try simp only [Act.put, sL]
                              refine takeY (i := 10) (v := ?_) hHeld ?_ ?_
                              rotate_left
                              · rintro w' ⟨c0, ri⟩; go_simp; rfl
                              try simp only [Act.put, sL]
                              refine takeL (i := 11) (v := .agg IR.toArray) rfl (by kernel_rfl) (by kernel_rfl) (by kernel_rfl) (fun _ _ _ h => h) (yieldsIf_load_mid (by kernel_rfl) 23 _ rfl eb (eo + k * 22 + 2) (by rfl) IR _ (fun w' h => h.ri) Tryz.underlying23 rfl hiI) hHeld ?_
                              try simp only [Act.put, sL]
                              refine takeL (i := 12) (v := .agg (encF fe).toArray) rfl (by kernel_rfl) (by kernel_rfl) (by kernel_rfl) (fun _ _ _ h => h) (Or.inl ⟨by rfl, fun w' h => exec_bd3 64 _ _ _ rfl (.string PS) (.int .i64 md) (.agg IR.toArray) _ rfl rfl rfl (HBU.out w')⟩) hHeld ?_
                              try simp only [Act.put, sL]
                              obtain ⟨K, HK⟩ : ∃ K, Hid (u0.heap.size = K) := ⟨_, rfl⟩
                              obtain ⟨u1, HU1⟩ : ∃ u, Hid (u0.alloc (.cells (encF fe).toArray 64) = u) := ⟨_, rfl⟩
                              have HBS2 : Hid ((Instr.buildSlice 41 1 #[(0, .agg (encF fe).toArray)]).run Tryz.prog u0 = .ok (.slice (some ⟨K, 0, none⟩) 1 1) u1) := hid (by rw [← HK.out, ← HU1.out]; exact run_bs41 fe (HFI.out fe (by simp)).1 u0)
                              have HB1 : Hid (Bx encF 24 64 w0 u1 B vi acci) := hid (by rw [← HU1.out]; exact HBd.out.alloc _)
                              have HP1 : Hid (Px encF 24 f0 u1 (some ⟨K, 0, none⟩) 1 [fe]) := hid (by rw [← HU1.out, ← HK.out]; exact px_oneF u0 fe)
                              have HMu : Hid (Mv w4 u1 v vi) := hid (by rw [← HU1.out]; exact HMd.out.trans (Mv.grow vi (World.grownBy_alloc u0 _ none)))
                              have HS1 : Hid (Q23 eb (eo + k * 22) md IR u1) := hid ⟨(HCE.out _ _ HMu.out).1, (HCE.out _ _ HMu.out).2.2⟩
                              refine wpAnyH_ready (rs := [13]) (by kernel_rfl) (by simp) ?_
                              refine consL rfl (fun KK hKK => ?_) AllReadyH.nil
                              refine step_exec (by rfl) (.slice (some ⟨K, 0, none⟩) 1 1) (w' := u1) (exec_bS1 41 1 (.tmp 120) (by rfl) _ _ (by rfl) HBS2.out) ?_
                              refine hKK.out _ _ HS1.out (fun hHeld2 => ?_)
                              clear hKK KK hHeld
                              try simp only [Act.put, sL]
                              refine wpAnyH_ready (rs := [14]) (by kernel_rfl) (by simp) ?_
                              refine consL rfl (fun KK hKK => ?_) AllReadyH.nil
                              refine step_app41 (by rfl) (.tmp 108) (.tmp 121) (by rfl) B vi acci (by rw [← HVI.out]; rfl) HB1.out (some ⟨K, 0, none⟩) 1 [fe] HFI.out (by rfl) HP1.out (by rw [HNI.out]; simp only [List.length_cons, List.length_nil]; omega) ?_
                              intro v2 u2 hb2 hm2
                              have HM2 : Hid (Mv w4 u2 v v2) := hid (HMu.out.trans hm2)
                              obtain ⟨a2, c2, hv2⟩ := owns_shape hb2.own
                              subst hv2
                              obtain ⟨n2, HN2⟩ : ∃ n, Hid (List.length (acci ++ [fe]) = n) := ⟨_, rfl⟩
                              have hn2 : n2 ≤ 2000 := by rw [← HN2.out, List.length_append, HNI.out]; simp only [List.length_cons, List.length_nil]; omega
                              rw [HN2.out] at hb2 HM2 ⊢
                              have HB2 : Hid (Bx encF 24 64 w0 u2 B (.slice a2 n2 c2) (acci ++ [fe])) := hb2
                              have HI2 : Hid (IdF (acci ++ [fe])) := hid (fun f hf => by
                                rcases List.mem_append.1 hf with hf | hf
                                · exact HII.out f hf
                                · exact HFI.out f hf)
                              refine hKK.out _ _ ⟨(HCE.out _ _ HM2.out).1, (HCE.out _ _ HM2.out).2.2⟩ (fun hHeld => ?_)
                              clear hKK KK hHeld2 hb2 hm2
                              try simp only [Act.put, sL]
                              refine takeY (i := 15) (v := ?_) hHeld ?_ ?_
                              rotate_left
                              · rintro w' ⟨c0, ri⟩; go_simp; rfl
                              try simp only [Act.put, sL]
                              refine wpAnyH_done (by kernel_rfl) ?_ _
                              clear hHeld
                              go_wp2
                              go_roundg (ne - (k + 1))
                              case measure => omega
                              case rel => exact ⟨k + 1, a2, n2, c2, acci ++ [fe], rfl, by go_num, rfl, by omega, hn2, HN2, HB2, HM2, HI2, hid (fun r => by rw [HES.out r, HEF.out, List.singleton_append, sc, if_pos rfl, if_neg (by rw [HNI.out]; exact hfull)])⟩
                      · have hkli : ¬ (k : Int) < (ne : Int) := by omega
                        have HLT : Hid (∀ r, sc (its ++ r) acc = sc r acci) := hid (fun r => by
                          rw [HIV.out r, List.drop_of_length_le (by rw [HNE.out]; omega)]
                          rfl)
                        go_wp2
                        go_ret2
                        rw [HV.out, HVI.out]
                        exact ⟨0, vi, acci, rfl, HBI.out, HMW.out, HII.out, by rw [HNI.out]; exact hni, fun _ r => HLT.out r, fun h => absurd rfl h⟩
            · have hkb : (kd == 2) = false := by rw [beq_eq_false_iff_ne]; exact hk2
              have HJ2 : Hid (∀ j, j < i + 1 → ¬ HitT os R x j) := hid (HNX.out True (fun h => hk2 (by rw [← HKD.out, ← HOi.out]; exact h.1)))
              clear hxo
              go_wp2_with (first
                | (refine wpList_store_row rfl 23 _ _ rfl w2.heap.size FR.toArray rfl rfl 23 zr HN3.out.d HFR.out.j31 E31.out HFR.out.o ?_; rw [HN3.out.w, HN3.out.h])
                | (refine BigFrame.wpList_want (by rfl) (fun KK hKK => ?_); refine wp_load_mid 23 _ rfl H 0 rfl FR _ R3.out Tryz.underlying23 rfl hiF ?_; refine hKK _ _ ?_; clear hKK KK)
                | (refine BigFrame.wpList_want (by rfl) (fun KK hKK => ?_); refine wp_load_mid 23 _ rfl G 0 rfl X _ RX3.out Tryz.underlying23 rfl hiX ?_; refine hKK _ _ ?_; clear hKK KK)
                | fail)
              go_roundg (n - (i + 1))
              case measure => omega
              case rel => exact ⟨i + 1, rfl, by go_num, rfl, by omega, HB3, HX3, HJ2⟩
          · have heq : ∀ V : World, (Op.equalIn 10000 23 (.agg FR.toArray) (.agg X.toArray)).run Tryz.prog V = .ok false V := fun V => by rw [HEQ.out V, decide_eq_false hxo]
            have HJ2 : Hid (∀ j, j < i + 1 → ¬ HitT os R x j) := hid (HNX.out True (fun h => hxo (by rw [← HOi.out]; exact h.2.2.1)))
            clear hxo
            go_wp2_with (first
              | (refine wpList_store_row rfl 23 _ _ rfl w2.heap.size FR.toArray rfl rfl 23 zr HN3.out.d HFR.out.j31 E31.out HFR.out.o ?_; rw [HN3.out.w, HN3.out.h])
              | (refine BigFrame.wpList_want (by rfl) (fun KK hKK => ?_); refine wp_load_mid 23 _ rfl H 0 rfl FR _ R3.out Tryz.underlying23 rfl hiF ?_; refine hKK _ _ ?_; clear hKK KK)
              | (refine BigFrame.wpList_want (by rfl) (fun KK hKK => ?_); refine wp_load_mid 23 _ rfl G 0 rfl X _ RX3.out Tryz.underlying23 rfl hiX ?_; refine hKK _ _ ?_; clear hKK KK)
              | fail)
            go_roundg (n - (i + 1))
            case measure => omega
            case rel => exact ⟨i + 1, rfl, by go_num, rfl, by omega, HB3, HX3, HJ2⟩
        · have hfb : (er == 0) = false := by rw [beq_eq_false_iff_ne]; exact her
          have HJ2 : Hid (∀ j, j < i + 1 → ¬ HitT os R x j) := hid (HNX.out True (fun h => her (by rw [← HER.out, ← HOi.out]; exact h.2.1)))
          go_wp2_with (first
            | (refine wpList_store_row rfl 23 _ _ rfl w2.heap.size FR.toArray rfl rfl 23 zr HN3.out.d HFR.out.j31 E31.out HFR.out.o ?_; rw [HN3.out.w, HN3.out.h])
            | fail)
          go_roundg (n - (i + 1))
          case measure => omega
          case rel => exact ⟨i + 1, rfl, by go_num, rfl, by omega, HB3, HX3, HJ2⟩
      · have hlti : ¬ (i : Int) < (n : Int) := by omega
        have HNO : Hid (lk x = none) := hid (HLK.out.no x (fun j hj => HJ.out j (by rw [HN.out] at hj; omega)))
        have HBw : Hid (Below B w0 wr) := hid (HBS.out.below.trans (HB.out.mono hBG))
        go_wp2
        go_ret2
        rw [HV.out]
        exact post15_err (by decide) HBw.out (by omega) ⟨v, Mv.grow v (grown_of_below (by rw [HG.out]; exact HB.out) _)⟩ (fun r => by rw [← HIT.out, itm, HNO.out]; rfl)
end Go.Proofs.YtikmbjfambjmaaaGreatDoor.Gr
