import Derived.Test.YtijeogdnjeamaaaGreatDoorQo04
namespace Go.Proofs.YtijeogdnjeamaaaGreatDoor
open Go.RowKit
set_option linter.unusedVariables false
set_option linter.unusedSimpArgs false
theorem conv_mk (l : Str) (w : World) : ∃ cap w', (convert 9 25 (.string ⟨l.toArray⟩)).run Tryz.prog w = .ok (.slice (some ⟨w.heap.size, 0, none⟩) l.length cap) w' ∧ Mk w' w.heap.size cap l ∧ Below w.heap.size w w' := by
  have hr := run_bytes_of_string (P := Tryz.prog) w 9 25 5 ⟨l.toArray⟩ Tryz.underlying9 Tryz.underlying25 Tryz.underlying5
  have hsz : (⟨l.toArray⟩ : ByteArray).size = l.length := by simp [ByteArray.size]
  rw [hsz] at hr
  have hge := grownCap_ge w l.length 0 5
  generalize grownCap w l.length 0 5 = cap at hr hge
  have hrs : (bytesRow ⟨l.toArray⟩ cap).size = cap := by simp [bytesRow, ByteArray.size]; omega
  rw [hrs] at hr
  have h1 : ∀ i, i < l.length → (bytesRow ⟨l.toArray⟩ cap)[i]? = some (.int .u8 ((l.getD i 0).toNat : Int)) := fun i hi => by
    simp [bytesRow, hi, Array.getElem?_append]
  generalize bytesRow ⟨l.toArray⟩ cap = R at hr h1 hrs
  have hh : (w.drew.alloc (.cells R 5 (cap, cap + 1))).heap[w.heap.size]? = some (.cells R 5 (cap, cap + 1)) := by
    show (w.heap.push _)[w.heap.size]? = _
    simp
  refine ⟨cap, _, hr, ⟨by simp, hge, fun j u hj => ?_, fun i g1 g2 => ⟨?_, ?_⟩⟩, rfl, rfl, rfl, by simp, fun k hk => ?_⟩
  · have hl := (List.getElem?_eq_some_iff.1 hj).1
    rw [bv_len] at hl
    unfold bv at hj
    rw [List.getElem?_map, List.getElem?_eq_getElem hl] at hj
    rw [World.cell?, hh]
    have := h1 j hl
    rw [List.getD_eq_getElem?_getD, List.getElem?_eq_getElem hl] at this
    rw [← hj]
    exact this
  · rw [World.cell?, hh]
    show (R[i]?).isSome = true
    rw [Array.getElem?_eq_getElem (by omega)]
    rfl
  · rw [World.frozen?, hh]
    simp
    omega
  · show (w.heap.push _)[k]? = _
    rw [Array.getElem?_push_lt hk, Array.getElem?_eq_getElem hk]
def Apd (w w' : World) (g : Nat) (v : Value) (s : Str) : Prop := ∃ g' cap', v = .slice (some ⟨g', 0, none⟩) s.length cap' ∧ Mk w' g' cap' s ∧ (g' = g ∨ w.heap.size ≤ g') ∧ w.grownBy w' (some g)
theorem mk_room {w : World} {g cap : Nat} {s : Str} (hm : Mk w g cap s) (l : Str) (hr : s.length + l.length ≤ cap) : Mk (w.setCells g s.length (bv l)) g cap (s ++ l) := by
  have hsp : ∀ j, j < (bv l).length → (w.cell? ⟨g, s.length + j, none⟩).isSome = true := fun j hj => by
    rw [bv_len] at hj
    exact (hm.spare (s.length + j) (by omega) (by omega)).1
  refine ⟨Nat.lt_of_lt_of_le hm.lt (grown_cells w g s.length (bv l)).size, by rw [List.length_append]; exact hr, fun j u hj => ?_, fun i h1 h2 => ?_⟩
  · rw [bv_app] at hj
    by_cases hlt : j < s.length
    · rw [World.cell?_setCells_out _ _ _ _ _ (fun _ _ => .inl hlt)]
      rw [List.getElem?_append_left (by rw [bv_len]; exact hlt)] at hj
      exact hm.at_ j u hj
    · rw [List.getElem?_append_right (by rw [bv_len]; omega), bv_len] at hj
      obtain ⟨k, rfl⟩ : ∃ k, j = s.length + k := ⟨j - s.length, by omega⟩
      rw [Nat.add_sub_cancel_left] at hj
      have hk := (List.getElem?_eq_some_iff.1 hj).1
      rw [World.cell?_setCells_in _ _ _ _ hsp k hk, ← List.getElem?_eq_getElem hk]
      exact hj
  · rw [List.length_append] at h1
    rw [World.cell?_setCells_out _ _ _ _ _ (fun _ _ => .inr (by show s.length + (bv l).length ≤ i; rw [bv_len]; exact h1)), World.frozen?_setCells]
    exact hm.spare i (by omega) h2
theorem app_mk (w : World) (g cap : Nat) (s l : Str) (a : Option Addr) (c : Nat) (hm : Mk w g cap s) (hS : PB w a c l) (hl : s.length + l.length ≤ 100000000) :
    ∃ v w', (Builtin.append_ #[25, 25] 25 #[.slice (some ⟨g, 0, none⟩) s.length cap, .slice a l.length c]).run Tryz.prog w = .ok v w' ∧ Apd w w' g v (s ++ l) := by
  obtain ⟨i5, hi, hz0, hz1, hz2⟩ := info_parts Tryz.info5
  by_cases h0 : l.length = 0
  · obtain rfl : l = [] := List.length_eq_zero_iff.1 h0
    refine ⟨.slice (some ⟨g, 0, none⟩) s.length cap, w, ?_, g, cap, by simp, by simpa using hm, .inl rfl, ⟨rfl, rfl, rfl, Nat.le_refl _, fun _ _ _ => rfl⟩⟩
    have hc := hm.capl
    cases a with
    | none => simp [Builtin.append_, run_underlying Tryz.underlying25, sizeOf, typeInfo, hi, Builtin.lenOf, Builtin.firstCells, hc, storeCells]
    | some ad => simp [Builtin.append_, run_underlying Tryz.underlying25, sizeOf, typeInfo, hi, Builtin.lenOf, Builtin.firstCells, hc, storeCells, loadCells, loadCellsFrom]
  · obtain ⟨b, off, rfl, hb, _⟩ := hS.at_ (by omega)
    by_cases hroom : s.length + l.length ≤ cap
    · have hr := run_append_room_cells (P := Tryz.prog) w 25 25 5 i5 Tryz.underlying25 hi g 0 s.length cap ⟨b, off, none⟩ l.length c (bv l) (by rw [hz1, bv_len]; simp) (PB.at hS) (bv_one l) hroom
        (fun j hj => by
          rw [hz1, Nat.zero_add, Nat.mul_one]
          rw [bv_len] at hj
          exact (hm.spare (s.length + j) (by omega) (by omega)).1)
        (fun j hj => by
          rw [hz1, Nat.zero_add, Nat.mul_one]
          rw [bv_len] at hj
          exact (hm.spare (s.length + j) (by omega) (by omega)).2)
      rw [hz1, Nat.zero_add, Nat.mul_one] at hr
      exact ⟨_, _, hr, g, cap, by rw [List.length_append], mk_room hm l hroom, .inl rfl, grown_cells w g _ _⟩
    · obtain ⟨v', w', hr, hown, hg⟩ := run_append_arg_grows (P := Tryz.prog) w 25 25 5 i5 (.int .u8 0) 1 1 Tryz.underlying25 hi hz0 hz1 hz2 rfl (by omega) ⟨g, 0, none⟩ s.length cap (bv s) (by rw [bv_len]; simp)
        (fun j u hj => by rw [addr_add, Nat.zero_add]; exact hm.at_ j u hj)
        ⟨b, off, none⟩ l.length c (bv l) (by rw [bv_len]; simp) (PB.at hS) (by omega) (by unfold maxLen; omega) (by omega)
      rw [← bv_app, ← List.length_append] at hown
      obtain ⟨g', cap', rfl, h1, h2⟩ := mk_own hown (by rw [List.length_append]; omega)
      exact ⟨_, w', hr, g', cap', rfl, h2, .inr h1, ⟨hg.os, hg.tape, hg.output, hg.size, fun k hk _ => hg.block k hk (by simp)⟩⟩
theorem run_four (a b c d : Int) (w : World) : (Instr.buildSlice 25 4 #[(0, .int .u8 a), (1, .int .u8 b), (2, .int .u8 c), (3, .int .u8 d)]).run Tryz.prog w = .ok (.slice (some ⟨w.heap.size, 0, none⟩) 4 4) (w.alloc (.cells #[.int .u8 a, .int .u8 b, .int .u8 c, .int .u8 d] 5)) := by
  obtain ⟨i, hq, hz, hs, _⟩ := info_parts Tryz.info5
  refine run_buildSlice w 25 5 4 _ #[.int .u8 a, .int .u8 b, .int .u8 c, .int .u8 d] i _ Tryz.underlying25 hq hz (by rw [hs]; decide) (by rw [hs]; decide) ?_
  rw [hs]
  kernel_rfl
theorem exec_bS4 {P : Program} {o : Oper} {a : Act} {w w' : World} (t len : Nat) (x y z q : Operand) (ho : o.op = .buildSlice t len #[(0, x), (1, y), (2, z), (3, q)]) (u1 u2 u3 u4 v : Value) (h1 : a.eval x = u1) (h2 : a.eval y = u2) (h3 : a.eval z = u3) (h4 : a.eval q = u4) (hr : (Instr.buildSlice t len #[(0, u1), (1, u2), (2, u3), (3, u4)]).run P w = .ok v w') : (execOp a.eval o).run P w = .ok (.value v) w' := by
  unfold execOp
  simp [ho, h1, h2, h3, h4, hr, Result.andThen]
def dh : ByteArray := ⟨#[48, 49, 50, 51, 52, 53, 54, 55, 56, 57, 97, 98, 99, 100, 101, 102]⟩
theorem dh_at (d : Nat) (h : d < 16) (w : World) : (Instr.index 9 (.string dh) (.int .i64 d)).run Tryz.prog w = .ok (.int .u8 ((dc d).toNat : Nat)) w := by
  have hc : d = 0 ∨ d = 1 ∨ d = 2 ∨ d = 3 ∨ d = 4 ∨ d = 5 ∨ d = 6 ∨ d = 7 ∨ d = 8 ∨ d = 9 ∨ d = 10 ∨ d = 11 ∨ d = 12 ∨ d = 13 ∨ d = 14 ∨ d = 15 := by omega
  rcases hc with rfl | rfl | rfl | rfl | rfl | rfl | rfl | rfl | rfl | rfl | rfl | rfl | rfl | rfl | rfl | rfl
  all_goals
    show _ = _
    kernel_rfl
theorem exec_ix {o : Oper} {a : Act} {w : World} (x : Operand) (ho : o.op = .index 9 (.const (.string dh)) x) (d : Nat) (h : d < 16) (hx : a.eval x = .int .i64 d) : (execOp a.eval o).run Tryz.prog w = .ok (.value (.int .u8 ((dc d).toNat : Nat))) w := by
  have hr := dh_at d h w
  have hc : a.eval (.const (.string dh)) = .string dh := rfl
  unfold execOp
  simp [ho, hx, hc, Sem.run_bind, hr, Result.andThen]
theorem exec_cv {o : Oper} {a : Act} {w : World} (x : Operand) (ho : o.op = .convert 25 9 x) (u v : Value) (hx : a.eval x = u) (hr : (convert 25 9 u).run Tryz.prog w = .ok v w) : (execOp a.eval o).run Tryz.prog w = .ok (.value v) w := by
  unfold execOp
  simp [ho, hx, Sem.run_bind, hr, Result.andThen]
set_option maxRecDepth 20000 in
set_option maxHeartbeats 2000000 in
theorem digits_any (n : Nat) (hn : n < 65536) (w : World) : Calls Tryz.prog 95 #[.int .i64 n] w fun e w' => e = .returned (.string ⟨(hx4 n).toArray⟩) ∧ Below w.heap.size w w' := by
  obtain ⟨a1, H1⟩ : ∃ x, Hid (n / 4096 = x) := ⟨_, rfl⟩
  obtain ⟨b1, J1⟩ : ∃ x, Hid (a1 % 16 = x) := ⟨_, rfl⟩
  obtain ⟨a2, H2⟩ : ∃ x, Hid (n / 256 = x) := ⟨_, rfl⟩
  obtain ⟨b2, J2⟩ : ∃ x, Hid (a2 % 16 = x) := ⟨_, rfl⟩
  obtain ⟨a3, H3⟩ : ∃ x, Hid (n / 16 = x) := ⟨_, rfl⟩
  obtain ⟨b3, J3⟩ : ∃ x, Hid (a3 % 16 = x) := ⟨_, rfl⟩
  obtain ⟨b4, J4⟩ : ∃ x, Hid (n % 16 = x) := ⟨_, rfl⟩
  have HB : Hid (a1 < 65536 ∧ a2 < 65536 ∧ a3 < 65536 ∧ b1 < 16 ∧ b2 < 16 ∧ b3 < 16 ∧ b4 < 16) := hid (by have h1 := H1.out; have h2 := H2.out; have h3 := H3.out; have j1 := J1.out; have j2 := J2.out; have j3 := J3.out; have j4 := J4.out; omega)
  obtain ⟨ha1, ha2, ha3, hb1, hb2, hb3, hb4⟩ := HB.out
  have e1 : IntKind.i64.wrap (a1 : Int) = a1 := wrap_i64 a1 (by omega)
  have e2 : IntKind.i64.wrap (a2 : Int) = a2 := wrap_i64 a2 (by omega)
  have e3 : IntKind.i64.wrap (a3 : Int) = a3 := wrap_i64 a3 (by omega)
  have HX : Hid (hx4 n = [dc b1, dc b2, dc b3, dc b4]) := hid (by unfold hx4; rw [H1.out, J1.out, H2.out, J2.out, H3.out, J3.out, J4.out])
  have q1 : (n : Int).tdiv 4096 = (a1 : Int) := by rw [Int.tdiv_eq_ediv_of_nonneg (by omega), ← H1.out]; omega
  have r1 : (a1 : Int).tmod 16 = (b1 : Int) := by rw [Int.tmod_eq_emod_of_nonneg (by omega), ← J1.out]; omega
  have q2 : (n : Int).tdiv 256 = (a2 : Int) := by rw [Int.tdiv_eq_ediv_of_nonneg (by omega), ← H2.out]; omega
  have r2 : (a2 : Int).tmod 16 = (b2 : Int) := by rw [Int.tmod_eq_emod_of_nonneg (by omega), ← J2.out]; omega
  have q3 : (n : Int).tdiv 16 = (a3 : Int) := by rw [Int.tdiv_eq_ediv_of_nonneg (by omega), ← H3.out]; omega
  have r3 : (a3 : Int).tmod 16 = (b3 : Int) := by rw [Int.tmod_eq_emod_of_nonneg (by omega), ← J3.out]; omega
  have r4 : (n : Int).tmod 16 = (b4 : Int) := by rw [Int.tmod_eq_emod_of_nonneg (by omega), ← J4.out]; omega
  have HW : Hid (Below w.heap.size w w.drew) := hid (Below.drewR (Below.refl _ _))
  go_enter Tryz.func95, Tryz.ntmps95
  go_wp2_with fail
  refine wp_region_held_drew (S := fun _ => True) (by kernel_rfl) trivial (fun hHeld => ?_)
  generalize w.drew = wd at HW ⊢
  refine takeL (i := 0) (v := ?_) rfl (by kernel_rfl) (by kernel_rfl) (by kernel_rfl) (fun _ _ _ h => h) (Or.inl ⟨by rfl, ?_⟩) hHeld ?_
  rotate_left
  · rintro w' _; go_simp; rfl
  try simp only [Act.put, List.setIfInBounds_toArray, List.set_cons_zero, List.set_cons_succ]
  refine takeL (i := 1) (v := .int .i64 (a1 : Nat)) rfl (by kernel_rfl) (by kernel_rfl) (by kernel_rfl) (fun _ _ _ h => h) (Or.inl ⟨by rfl, ?_⟩) hHeld ?_
  · rintro w' _; go_simp; try rfl
  try simp only [Act.put, List.setIfInBounds_toArray, List.set_cons_zero, List.set_cons_succ]
  refine takeL (i := 2) (v := .int .i64 (b1 : Nat)) rfl (by kernel_rfl) (by kernel_rfl) (by kernel_rfl) (fun _ _ _ h => h) (Or.inl ⟨by rfl, ?_⟩) hHeld ?_
  · rintro w' _; go_simp; try rfl
  try simp only [Act.put, List.setIfInBounds_toArray, List.set_cons_zero, List.set_cons_succ]
  refine takeL (i := 3) (v := .int .u8 ((dc b1).toNat : Nat)) rfl (by kernel_rfl) (by kernel_rfl) (by kernel_rfl) (fun _ _ _ h => h) (Or.inl ⟨by rfl, ?_⟩) hHeld ?_
  · rintro w' _; exact exec_ix (.tmp 5) rfl b1 hb1 rfl
  try simp only [Act.put, List.setIfInBounds_toArray, List.set_cons_zero, List.set_cons_succ]
  refine takeL (i := 4) (v := ?_) rfl (by kernel_rfl) (by kernel_rfl) (by kernel_rfl) (fun _ _ _ h => h) (Or.inl ⟨by rfl, ?_⟩) hHeld ?_
  rotate_left
  · rintro w' _; go_simp; rfl
  try simp only [Act.put, List.setIfInBounds_toArray, List.set_cons_zero, List.set_cons_succ]
  refine takeL (i := 5) (v := .int .i64 (a2 : Nat)) rfl (by kernel_rfl) (by kernel_rfl) (by kernel_rfl) (fun _ _ _ h => h) (Or.inl ⟨by rfl, ?_⟩) hHeld ?_
  · rintro w' _; go_simp; try rfl
  try simp only [Act.put, List.setIfInBounds_toArray, List.set_cons_zero, List.set_cons_succ]
  refine takeL (i := 6) (v := .int .i64 (b2 : Nat)) rfl (by kernel_rfl) (by kernel_rfl) (by kernel_rfl) (fun _ _ _ h => h) (Or.inl ⟨by rfl, ?_⟩) hHeld ?_
  · rintro w' _; go_simp; try rfl
  try simp only [Act.put, List.setIfInBounds_toArray, List.set_cons_zero, List.set_cons_succ]
  refine takeL (i := 7) (v := .int .u8 ((dc b2).toNat : Nat)) rfl (by kernel_rfl) (by kernel_rfl) (by kernel_rfl) (fun _ _ _ h => h) (Or.inl ⟨by rfl, ?_⟩) hHeld ?_
  · rintro w' _; exact exec_ix (.tmp 9) rfl b2 hb2 rfl
  try simp only [Act.put, List.setIfInBounds_toArray, List.set_cons_zero, List.set_cons_succ]
  refine takeL (i := 8) (v := ?_) rfl (by kernel_rfl) (by kernel_rfl) (by kernel_rfl) (fun _ _ _ h => h) (Or.inl ⟨by rfl, ?_⟩) hHeld ?_
  rotate_left
  · rintro w' _; go_simp; rfl
  try simp only [Act.put, List.setIfInBounds_toArray, List.set_cons_zero, List.set_cons_succ]
  refine takeL (i := 9) (v := .int .i64 (a3 : Nat)) rfl (by kernel_rfl) (by kernel_rfl) (by kernel_rfl) (fun _ _ _ h => h) (Or.inl ⟨by rfl, ?_⟩) hHeld ?_
  · rintro w' _; go_simp; try rfl
  try simp only [Act.put, List.setIfInBounds_toArray, List.set_cons_zero, List.set_cons_succ]
  refine takeL (i := 10) (v := .int .i64 (b3 : Nat)) rfl (by kernel_rfl) (by kernel_rfl) (by kernel_rfl) (fun _ _ _ h => h) (Or.inl ⟨by rfl, ?_⟩) hHeld ?_
  · rintro w' _; go_simp; try rfl
  try simp only [Act.put, List.setIfInBounds_toArray, List.set_cons_zero, List.set_cons_succ]
  refine takeL (i := 11) (v := .int .u8 ((dc b3).toNat : Nat)) rfl (by kernel_rfl) (by kernel_rfl) (by kernel_rfl) (fun _ _ _ h => h) (Or.inl ⟨by rfl, ?_⟩) hHeld ?_
  · rintro w' _; exact exec_ix (.tmp 13) rfl b3 hb3 rfl
  try simp only [Act.put, List.setIfInBounds_toArray, List.set_cons_zero, List.set_cons_succ]
  refine takeL (i := 12) (v := ?_) rfl (by kernel_rfl) (by kernel_rfl) (by kernel_rfl) (fun _ _ _ h => h) (Or.inl ⟨by rfl, ?_⟩) hHeld ?_
  rotate_left
  · rintro w' _; go_simp; rfl
  try simp only [Act.put, List.setIfInBounds_toArray, List.set_cons_zero, List.set_cons_succ]
  refine takeL (i := 13) (v := .int .i64 (b4 : Nat)) rfl (by kernel_rfl) (by kernel_rfl) (by kernel_rfl) (fun _ _ _ h => h) (Or.inl ⟨by rfl, ?_⟩) hHeld ?_
  · rintro w' _; go_simp; try rfl
  try simp only [Act.put, List.setIfInBounds_toArray, List.set_cons_zero, List.set_cons_succ]
  refine takeL (i := 14) (v := .int .u8 ((dc b4).toNat : Nat)) rfl (by kernel_rfl) (by kernel_rfl) (by kernel_rfl) (fun _ _ _ h => h) (Or.inl ⟨by rfl, ?_⟩) hHeld ?_
  · rintro w' _; exact exec_ix (.tmp 16) rfl b4 hb4 rfl
  try simp only [Act.put, List.setIfInBounds_toArray, List.set_cons_zero, List.set_cons_succ]
  obtain ⟨W2, HW2⟩ : ∃ W2, Hid (wd.alloc (.cells (bv [dc b1, dc b2, dc b3, dc b4]).toArray 5) = W2) := ⟨_, rfl⟩
  have HB2 : Hid (Below w.heap.size w W2) := hid (by rw [← HW2.out]; exact HW.out.alloc HW.out.size _)
  have HP2 : Hid (PB W2 (some ⟨wd.heap.size, 0, none⟩) 4 [dc b1, dc b2, dc b3, dc b4]) := hid (by rw [← HW2.out]; exact pb_new _ wd 5)
  refine wpAnyH_ready (rs := [15]) (by kernel_rfl) (by simp) ?_
  refine consL rfl (fun KK hKK => ?_) AllReadyH.nil
  refine step_exec (by rfl) (.slice (some ⟨wd.heap.size, 0, none⟩) 4 4) (w' := W2) (exec_bS4 25 4 (.tmp 6) (.tmp 10) (.tmp 14) (.tmp 17) (by rfl) _ _ _ _ _ (by rfl) (by rfl) (by rfl) (by rfl) (by rw [← HW2.out]; exact run_four _ _ _ _ wd)) ?_
  refine hKK.out _ _ trivial (fun _ => ?_)
  clear hKK KK
  try simp only [Act.put, List.setIfInBounds_toArray, List.set_cons_zero, List.set_cons_succ]
  refine wpAnyH_ready (rs := [16]) (by kernel_rfl) (by simp) ?_
  refine consL rfl (fun KK hKK => ?_) AllReadyH.nil
  refine step_exec (by rfl) (sV [dc b1, dc b2, dc b3, dc b4]) (w' := W2) (exec_cv (.tmp 18) (by rfl) _ _ (by rfl) (conv_str HP2.out)) ?_
  refine hKK.out _ _ trivial (fun _ => ?_)
  clear hKK KK
  try simp only [Act.put, List.setIfInBounds_toArray, List.set_cons_zero, List.set_cons_succ]
  refine takeL (i := 17) (v := ?_) rfl (by kernel_rfl) (by kernel_rfl) (by kernel_rfl) (fun _ _ _ h => h) (Or.inl ⟨by rfl, ?_⟩) hHeld ?_
  rotate_left
  · rintro w' _; go_simp; rfl
  try simp only [Act.put, List.setIfInBounds_toArray, List.set_cons_zero, List.set_cons_succ]
  refine wpAnyH_done (by kernel_rfl) ?_ _
  clear hHeld
  go_wp2
  go_ret
  exact ⟨by rw [HX.out]; rfl, HB2.out⟩
end Go.Proofs.YtijeogdnjeamaaaGreatDoor
namespace Go.Proofs.YtijeogdnjeamaaaGreatDoor
open Go.RowKit
set_option linter.unusedVariables false
set_option linter.unusedSimpArgs false
theorem szT_inj {n m : Nat} (hn : n ≤ 1000) (hm : m ≤ 1000) (h : szT n = szT m) : n = m := by
  have h1 := (szT_hex n hn).1
  have h2 := (szT_hex m hm).1
  rw [h, h2] at h1
  have h3 := Option.some.inj h1
  by_cases h4 : n = 0 <;> by_cases h5 : m = 0 <;> simp [h4, h5] at h3 <;> omega
def PostNx (a : Option Addr) (cap : Nat) (s : Str) (w : World) (e : Ending) (w' : World) : Prop :=
  Below w.heap.size w w' ∧ ((∃ n, Fst s n ∧ e = .returned (.tuple #[.slice (adX 1 a cap 4) n (cap - 4 : Nat), .slice (adX 1 a cap (4 + n)) (s.length - (4 + n) : Nat) (cap - (4 + n) : Nat), .bool true])) ∨ ((¬ ∃ n, Fst s n) ∧ e = .returned (.tuple #[.slice none 0 0, .slice a s.length cap, .bool false])))
theorem Tryz.results84 : Tryz.f84.results = #[.tmp 2, .tmp 3, .tmp 4] := by kernel_rfl
set_option maxRecDepth 20000 in
set_option maxHeartbeats 4000000 in
theorem next_any {w : World} (a : Option Addr) (cap : Nat) (s : Str) (hP : PB w a cap s) (hl : s.length ≤ 1000000) : Calls Tryz.prog 84 #[.slice a s.length cap] w (PostNx a cap s w) := by
  obtain ⟨m, HM⟩ : ∃ m, Hid (s.length = m) := ⟨_, rfl⟩
  have hm : m ≤ 1000000 := by rw [← HM.out]; exact hl
  have hcap : m ≤ cap := by rw [← HM.out]; exact hP.capl
  have HPB := hid hP
  by_cases h4 : m < 4
  · have h4i : (m : Int) < 4 := by omega
    have HN : Hid (¬ ∃ n, Fst s n) := hid (by rintro ⟨n, h⟩; have := h.2.1; rw [HM.out] at this; omega)
    rw [HM.out]
    go_enter Tryz.func84, Tryz.ntmps84
    go_wp2
    refine bodyPost_ret (results_tmp3 Tryz.results84 _ _ _) rfl ?_
    exact ⟨Below.refl _ _, .inr ⟨HN.out, by rw [HM.out]; rfl⟩⟩
  have h4i : ¬ (m : Int) < 4 := by omega
  obtain ⟨t, HT⟩ : ∃ t, Hid (s.take 4 = t) := ⟨_, rfl⟩
  have HTL : Hid (t.length = 4) := hid (by rw [← HT.out, List.length_take, HM.out]; omega)
  obtain ⟨S, HS⟩ : ∃ S : ByteArray, Hid (⟨t.toArray⟩ = S) := ⟨_, rfl⟩
  have hs4 : ∀ W : World, (Instr.slice 25 (.slice a m cap) none (some (.int .i64 4)) none).run Tryz.prog W = .ok (.slice a 4 cap) W := fun W => sl4 a m cap 4 (by omega) W
  have HCV : Hid (∀ W : World, Below w.heap.size w W → (convert 25 9 (.slice a 4 cap)).run Tryz.prog W = .ok (.string S) W) := hid (fun W hW => by
    have hp : PB W a cap t := by rw [← HT.out]; exact (HPB.out.below hW).take 4
    have := conv_str hp
    rw [HTL.out] at this
    rw [← HS.out]
    exact this)
  rw [HM.out]
  clear hP hl
  go_enter Tryz.func84, Tryz.ntmps84
  go_wp2_with fail
  go_loopg [5] 1001 (fun gg nv wr => ∃ n : Nat, nv = .int .i64 n ∧ n ≤ 1001 ∧ gg = 1001 - n ∧ Hid (Below w.heap.size w wr) ∧ Hid (∀ j, j < n → t ≠ szT j))
  case atStart => exact ⟨0, rfl, Nat.zero_le _, rfl, hid (Below.refl _ _), hid (fun j hj => by omega)⟩
  case round =>
    obtain ⟨n, rfl, hn, hk, HBW, HNO⟩ := hrel
    by_cases hlt : n ≤ 1000
    · have hlti : (n : Int) ≤ 1000 := by omega
      have C18 : Hid (Calls Tryz.prog 95 #[.int .i64 ((n : Int) + 4)] wr fun e w' => e = .returned (.string ⟨(hx4 (n + 4)).toArray⟩) ∧ Below wr.heap.size wr w') := hid (digits_any (n + 4) (by omega) wr)
      obtain ⟨Y, HY⟩ : ∃ Y : ByteArray, Hid (⟨(hx4 (n + 4)).toArray⟩ = Y) := ⟨_, rfl⟩
      rw [HY.out] at C18
      by_cases hz : n = 0
      · have hz0 : ((n : Int) == 0) = true := by simp [hz]
        obtain ⟨Z, HZ⟩ : ∃ Z : ByteArray, Hid (⟨(szT n).toArray⟩ = Z) := ⟨_, rfl⟩
        have HN0 := hid hz
        clear hz
        go_wp2_with fail
        refine C18.out.mono ?_
        rintro e w1 ⟨rfl, hb1⟩
        have HB1 : Hid (Below w.heap.size w w1) := hid (HBW.out.trans (hb1.mono HBW.out.size))
        have hcv := HCV.out w1 HB1.out
        clear hb1
        by_cases heq : t = szT n
        · have hbq : (S.toList == Z.toList) = true := by rw [← HZ.out, ← HS.out, heq]; simp
          have hb48 : (S.toList == [48, 48, 48, 48]) = true := by have ht : t = [48, 48, 48, 48] := (by rw [heq, HN0.out]; rfl)
                                                                  rw [← HS.out, ht]; simp
          have HONE : Hid (∀ j, Fst s j → j = n) := hid (fun j h => szT_inj h.1 (by omega) (by rw [← h.2.2, HT.out, heq]))
          have HEQ := hid heq
          clear heq
          by_cases hsm : m < 4 + n
          · have hsmi : (m : Int) < 4 + (n : Int) := by omega
            have HN : Hid (¬ ∃ n, Fst s n) := hid (by
              rintro ⟨j, h⟩
              have h1 := HONE.out j h
              have h2 := h.2.1
              rw [HM.out] at h2
              omega)
            go_wp2
            refine bodyPost_ret (results_tmp3 Tryz.results84 _ _ _) rfl ?_
            exact ⟨HB1.out, .inr ⟨HN.out, by rw [HM.out]; rfl⟩⟩
          · have hsmi : ¬ (m : Int) < 4 + (n : Int) := by omega
            have hwr : IntKind.i64.wrap (4 + (n : Int)) = 4 + (n : Int) := by rw [IntKind.wrap_i64]; omega
            have HF : Hid (Fst s n) := hid ⟨by omega, by rw [HM.out]; omega, by rw [HT.out, HEQ.out]⟩
            obtain ⟨A4, HA4⟩ : ∃ x, Hid (adX 1 a cap 4 = x) := ⟨_, rfl⟩
            obtain ⟨c4, HC4⟩ : ∃ x, Hid (cap - 4 = x) := ⟨_, rfl⟩
            obtain ⟨Aq, HAq⟩ : ∃ x, Hid (adX 1 a cap (4 + n) = x) := ⟨_, rfl⟩
            obtain ⟨cq, HCq⟩ : ∃ x, Hid (cap - (4 + n) = x) := ⟨_, rfl⟩
            obtain ⟨mq, HMq⟩ : ∃ x, Hid (m - (4 + n) = x) := ⟨_, rfl⟩
            have hsl : ∀ W : World, (Instr.slice 25 (.slice a m cap) (some (.int .i64 4)) (some (.int .i64 (4 + (n : Int)))) none).run Tryz.prog W = .ok (.slice A4 n c4) W := fun W => by
              have := sl22 a m cap 4 (4 + n) (4 + (n : Int)) (by omega) (by omega) (by omega) W
              rw [HA4.out, HC4.out, show 4 + n - 4 = n by omega] at this
              exact this
            have hslq : ∀ W : World, (Instr.slice 25 (.slice a m cap) (some (.int .i64 (4 + (n : Int)))) none none).run Tryz.prog W = .ok (.slice Aq mq cq) W := fun W => by
              have := sl22l a m cap (4 + n) (by omega) W
              rw [HAq.out, HCq.out, HMq.out, show ((4 + n : Nat) : Int) = 4 + (n : Int) by omega] at this
              exact this
            go_wp2_with fail
            have HBd : Hid (Below w.heap.size w w1.drew) := hid (Below.drewR HB1.out)
            refine wp_region_held_drew (S := fun _ => True) (by kernel_rfl) trivial (fun hHeld => ?_)
            generalize w1.drew = wd at HBd ⊢
            refine takeL (i := 0) (v := ?_) rfl (by kernel_rfl) (by kernel_rfl) (by kernel_rfl) (fun _ _ _ h => h) (Or.inl ⟨by rfl, ?_⟩) hHeld ?_
            rotate_left
            · rintro w' _; go_simp; rfl
            try simp only [Act.put, List.setIfInBounds_toArray, List.set_cons_zero, List.set_cons_succ]
            refine takeL (i := 1) (v := ?_) rfl (by kernel_rfl) (by kernel_rfl) (by kernel_rfl) (fun _ _ _ h => h) (Or.inl ⟨by rfl, ?_⟩) hHeld ?_
            rotate_left
            · rintro w' _; go_simp; rfl
            try simp only [Act.put, List.setIfInBounds_toArray, List.set_cons_zero, List.set_cons_succ]
            refine takeL (i := 2) (v := .int .i64 (4 + (n : Int))) rfl (by kernel_rfl) (by kernel_rfl) (by kernel_rfl) (fun _ _ _ h => h) (Or.inl ⟨by rfl, ?_⟩) hHeld ?_
            · rintro w' _; go_simp; try rfl
            try simp only [Act.put, List.setIfInBounds_toArray, List.set_cons_zero, List.set_cons_succ]
            refine takeL (i := 3) (v := .slice A4 n c4) rfl (by kernel_rfl) (by kernel_rfl) (by kernel_rfl) (fun _ _ _ h => h) (Or.inl ⟨by rfl, ?_⟩) hHeld ?_
            · rintro w' _; go_simp; try rfl
            try simp only [Act.put, List.setIfInBounds_toArray, List.set_cons_zero, List.set_cons_succ]
            refine takeL (i := 4) (v := ?_) rfl (by kernel_rfl) (by kernel_rfl) (by kernel_rfl) (fun _ _ _ h => h) (Or.inl ⟨by rfl, ?_⟩) hHeld ?_
            rotate_left
            · rintro w' _; go_simp; rfl
            try simp only [Act.put, List.setIfInBounds_toArray, List.set_cons_zero, List.set_cons_succ]
            refine takeL (i := 5) (v := ?_) rfl (by kernel_rfl) (by kernel_rfl) (by kernel_rfl) (fun _ _ _ h => h) (Or.inl ⟨by rfl, ?_⟩) hHeld ?_
            rotate_left
            · rintro w' _; go_simp; rfl
            try simp only [Act.put, List.setIfInBounds_toArray, List.set_cons_zero, List.set_cons_succ]
            refine takeL (i := 6) (v := .int .i64 (4 + (n : Int))) rfl (by kernel_rfl) (by kernel_rfl) (by kernel_rfl) (fun _ _ _ h => h) (Or.inl ⟨by rfl, ?_⟩) hHeld ?_
            · rintro w' _; go_simp; try rfl
            try simp only [Act.put, List.setIfInBounds_toArray, List.set_cons_zero, List.set_cons_succ]
            refine takeL (i := 7) (v := .slice Aq mq cq) rfl (by kernel_rfl) (by kernel_rfl) (by kernel_rfl) (fun _ _ _ h => h) (Or.inl ⟨by rfl, ?_⟩) hHeld ?_
            · rintro w' _; go_simp; try rfl
            try simp only [Act.put, List.setIfInBounds_toArray, List.set_cons_zero, List.set_cons_succ]
            refine takeL (i := 8) (v := ?_) rfl (by kernel_rfl) (by kernel_rfl) (by kernel_rfl) (fun _ _ _ h => h) (Or.inl ⟨by rfl, ?_⟩) hHeld ?_
            rotate_left
            · rintro w' _; go_simp; rfl
            try simp only [Act.put, List.setIfInBounds_toArray, List.set_cons_zero, List.set_cons_succ]
            refine takeL (i := 9) (v := ?_) rfl (by kernel_rfl) (by kernel_rfl) (by kernel_rfl) (fun _ _ _ h => h) (Or.inl ⟨by rfl, ?_⟩) hHeld ?_
            rotate_left
            · rintro w' _; go_simp; rfl
            try simp only [Act.put, List.setIfInBounds_toArray, List.set_cons_zero, List.set_cons_succ]
            refine takeL (i := 10) (v := ?_) rfl (by kernel_rfl) (by kernel_rfl) (by kernel_rfl) (fun _ _ _ h => h) (Or.inl ⟨by rfl, ?_⟩) hHeld ?_
            rotate_left
            · rintro w' _; go_simp; rfl
            try simp only [Act.put, List.setIfInBounds_toArray, List.set_cons_zero, List.set_cons_succ]
            refine wpAnyH_done (by kernel_rfl) ?_ _
            clear hHeld
            go_wp2
            refine bodyPost_ret (results_tmp3 Tryz.results84 _ _ _) rfl ?_
            refine ⟨HBd.out, .inl ⟨n, HF.out, ?_⟩⟩
            rw [HA4.out, HC4.out, HAq.out, HCq.out, HM.out, HMq.out]
            rfl
        · have hbq : (S.toList == Z.toList) = false := bne_txt HS.out HZ.out heq
          have hb48 : (S.toList == [48, 48, 48, 48]) = false := by have ht : t ≠ [48, 48, 48, 48] := (fun h => heq (by rw [h, HN0.out]; rfl))
                                                                   rw [← HS.out]; simp [ht]
          have HNO2 : Hid (∀ j, j < n + 1 → t ≠ szT j) := hid (fun j hj => by
            by_cases h : j = n
            · rw [h]; exact heq
            · exact HNO.out j (by omega))
          clear heq
          go_wp2
          go_roundg (1001 - (n + 1))
          case measure => omega
          case rel => exact ⟨n + 1, by go_num, by omega, rfl, HB1, HNO2⟩
      · have hz0 : ((n : Int) == 0) = false := by simp [hz]
        obtain ⟨Z, HZ⟩ : ∃ Z : ByteArray, Hid (⟨(szT n).toArray⟩ = Z) := ⟨_, rfl⟩
        have hZ0 : Y = Z := by rw [← HZ.out, ← HY.out]; unfold szT; rw [if_neg hz]
        rw [hZ0] at C18
        have HZ0 := hid hZ0
        clear hZ0 hz
        go_wp2_with fail
        refine C18.out.mono ?_
        rintro e w1 ⟨rfl, hb1⟩
        have HB1 : Hid (Below w.heap.size w w1) := hid (HBW.out.trans (hb1.mono HBW.out.size))
        have hcv := HCV.out w1 HB1.out
        clear hb1
        by_cases heq : t = szT n
        · have hbq : (S.toList == Z.toList) = true := by rw [← HZ.out, ← HS.out, heq]; simp
          have HONE : Hid (∀ j, Fst s j → j = n) := hid (fun j h => szT_inj h.1 (by omega) (by rw [← h.2.2, HT.out, heq]))
          have HEQ := hid heq
          clear heq
          by_cases hsm : m < 4 + n
          · have hsmi : (m : Int) < 4 + (n : Int) := by omega
            have HN : Hid (¬ ∃ n, Fst s n) := hid (by
              rintro ⟨j, h⟩
              have h1 := HONE.out j h
              have h2 := h.2.1
              rw [HM.out] at h2
              omega)
            go_wp2
            refine bodyPost_ret (results_tmp3 Tryz.results84 _ _ _) rfl ?_
            exact ⟨HB1.out, .inr ⟨HN.out, by rw [HM.out]; rfl⟩⟩
          · have hsmi : ¬ (m : Int) < 4 + (n : Int) := by omega
            have hwr : IntKind.i64.wrap (4 + (n : Int)) = 4 + (n : Int) := by rw [IntKind.wrap_i64]; omega
            have HF : Hid (Fst s n) := hid ⟨by omega, by rw [HM.out]; omega, by rw [HT.out, HEQ.out]⟩
            obtain ⟨A4, HA4⟩ : ∃ x, Hid (adX 1 a cap 4 = x) := ⟨_, rfl⟩
            obtain ⟨c4, HC4⟩ : ∃ x, Hid (cap - 4 = x) := ⟨_, rfl⟩
            obtain ⟨Aq, HAq⟩ : ∃ x, Hid (adX 1 a cap (4 + n) = x) := ⟨_, rfl⟩
            obtain ⟨cq, HCq⟩ : ∃ x, Hid (cap - (4 + n) = x) := ⟨_, rfl⟩
            obtain ⟨mq, HMq⟩ : ∃ x, Hid (m - (4 + n) = x) := ⟨_, rfl⟩
            have hsl : ∀ W : World, (Instr.slice 25 (.slice a m cap) (some (.int .i64 4)) (some (.int .i64 (4 + (n : Int)))) none).run Tryz.prog W = .ok (.slice A4 n c4) W := fun W => by
              have := sl22 a m cap 4 (4 + n) (4 + (n : Int)) (by omega) (by omega) (by omega) W
              rw [HA4.out, HC4.out, show 4 + n - 4 = n by omega] at this
              exact this
            have hslq : ∀ W : World, (Instr.slice 25 (.slice a m cap) (some (.int .i64 (4 + (n : Int)))) none none).run Tryz.prog W = .ok (.slice Aq mq cq) W := fun W => by
              have := sl22l a m cap (4 + n) (by omega) W
              rw [HAq.out, HCq.out, HMq.out, show ((4 + n : Nat) : Int) = 4 + (n : Int) by omega] at this
              exact this
            go_wp2_with fail
            have HBd : Hid (Below w.heap.size w w1.drew) := hid (Below.drewR HB1.out)
            refine wp_region_held_drew (S := fun _ => True) (by kernel_rfl) trivial (fun hHeld => ?_)
            generalize w1.drew = wd at HBd ⊢
            refine takeL (i := 0) (v := ?_) rfl (by kernel_rfl) (by kernel_rfl) (by kernel_rfl) (fun _ _ _ h => h) (Or.inl ⟨by rfl, ?_⟩) hHeld ?_
            rotate_left
            · rintro w' _; go_simp; rfl
            try simp only [Act.put, List.setIfInBounds_toArray, List.set_cons_zero, List.set_cons_succ]
            refine takeL (i := 1) (v := ?_) rfl (by kernel_rfl) (by kernel_rfl) (by kernel_rfl) (fun _ _ _ h => h) (Or.inl ⟨by rfl, ?_⟩) hHeld ?_
            rotate_left
            · rintro w' _; go_simp; rfl
            try simp only [Act.put, List.setIfInBounds_toArray, List.set_cons_zero, List.set_cons_succ]
            refine takeL (i := 2) (v := .int .i64 (4 + (n : Int))) rfl (by kernel_rfl) (by kernel_rfl) (by kernel_rfl) (fun _ _ _ h => h) (Or.inl ⟨by rfl, ?_⟩) hHeld ?_
            · rintro w' _; go_simp; try rfl
            try simp only [Act.put, List.setIfInBounds_toArray, List.set_cons_zero, List.set_cons_succ]
            refine takeL (i := 3) (v := .slice A4 n c4) rfl (by kernel_rfl) (by kernel_rfl) (by kernel_rfl) (fun _ _ _ h => h) (Or.inl ⟨by rfl, ?_⟩) hHeld ?_
            · rintro w' _; go_simp; try rfl
            try simp only [Act.put, List.setIfInBounds_toArray, List.set_cons_zero, List.set_cons_succ]
            refine takeL (i := 4) (v := ?_) rfl (by kernel_rfl) (by kernel_rfl) (by kernel_rfl) (fun _ _ _ h => h) (Or.inl ⟨by rfl, ?_⟩) hHeld ?_
            rotate_left
            · rintro w' _; go_simp; rfl
            try simp only [Act.put, List.setIfInBounds_toArray, List.set_cons_zero, List.set_cons_succ]
            refine takeL (i := 5) (v := ?_) rfl (by kernel_rfl) (by kernel_rfl) (by kernel_rfl) (fun _ _ _ h => h) (Or.inl ⟨by rfl, ?_⟩) hHeld ?_
            rotate_left
            · rintro w' _; go_simp; rfl
            try simp only [Act.put, List.setIfInBounds_toArray, List.set_cons_zero, List.set_cons_succ]
            refine takeL (i := 6) (v := .int .i64 (4 + (n : Int))) rfl (by kernel_rfl) (by kernel_rfl) (by kernel_rfl) (fun _ _ _ h => h) (Or.inl ⟨by rfl, ?_⟩) hHeld ?_
            · rintro w' _; go_simp; try rfl
            try simp only [Act.put, List.setIfInBounds_toArray, List.set_cons_zero, List.set_cons_succ]
            refine takeL (i := 7) (v := .slice Aq mq cq) rfl (by kernel_rfl) (by kernel_rfl) (by kernel_rfl) (fun _ _ _ h => h) (Or.inl ⟨by rfl, ?_⟩) hHeld ?_
            · rintro w' _; go_simp; try rfl
            try simp only [Act.put, List.setIfInBounds_toArray, List.set_cons_zero, List.set_cons_succ]
            refine takeL (i := 8) (v := ?_) rfl (by kernel_rfl) (by kernel_rfl) (by kernel_rfl) (fun _ _ _ h => h) (Or.inl ⟨by rfl, ?_⟩) hHeld ?_
            rotate_left
            · rintro w' _; go_simp; rfl
            try simp only [Act.put, List.setIfInBounds_toArray, List.set_cons_zero, List.set_cons_succ]
            refine takeL (i := 9) (v := ?_) rfl (by kernel_rfl) (by kernel_rfl) (by kernel_rfl) (fun _ _ _ h => h) (Or.inl ⟨by rfl, ?_⟩) hHeld ?_
            rotate_left
            · rintro w' _; go_simp; rfl
            try simp only [Act.put, List.setIfInBounds_toArray, List.set_cons_zero, List.set_cons_succ]
            refine takeL (i := 10) (v := ?_) rfl (by kernel_rfl) (by kernel_rfl) (by kernel_rfl) (fun _ _ _ h => h) (Or.inl ⟨by rfl, ?_⟩) hHeld ?_
            rotate_left
            · rintro w' _; go_simp; rfl
            try simp only [Act.put, List.setIfInBounds_toArray, List.set_cons_zero, List.set_cons_succ]
            refine wpAnyH_done (by kernel_rfl) ?_ _
            clear hHeld
            go_wp2
            refine bodyPost_ret (results_tmp3 Tryz.results84 _ _ _) rfl ?_
            refine ⟨HBd.out, .inl ⟨n, HF.out, ?_⟩⟩
            rw [HA4.out, HC4.out, HAq.out, HCq.out, HM.out, HMq.out]
            rfl
        · have hbq : (S.toList == Z.toList) = false := bne_txt HS.out HZ.out heq
          have HNO2 : Hid (∀ j, j < n + 1 → t ≠ szT j) := hid (fun j hj => by
            by_cases h : j = n
            · rw [h]; exact heq
            · exact HNO.out j (by omega))
          clear heq
          go_wp2
          go_roundg (1001 - (n + 1))
          case measure => omega
          case rel => exact ⟨n + 1, by go_num, by omega, rfl, HB1, HNO2⟩
    · have hlti : ¬ (n : Int) ≤ 1000 := by omega
      have HN : Hid (¬ ∃ n, Fst s n) := hid (by
        rintro ⟨j, h⟩
        exact HNO.out j (by have := h.1; omega) (by rw [← HT.out, h.2.2]))
      go_wp2
      refine bodyPost_ret (results_tmp3 Tryz.results84 _ _ _) rfl ?_
      exact ⟨HBW.out, .inr ⟨HN.out, by rw [HM.out]; rfl⟩⟩
end Go.Proofs.YtijeogdnjeamaaaGreatDoor
namespace Go.Proofs.YtijeogdnjeamaaaGreatDoor
open Go.RowKit
set_option linter.unusedVariables false
set_option linter.unusedSimpArgs false
abbrev BT (w0 w : World) (B : Nat) (v : Value) (ts : List Hdr) : Prop := Bx encT 1 25 w0 w B v ts
theorem BT.more {w0 W : World} {B : Nat} {v : Value} {ts : List Hdr} (h : BT w0 W B v ts) (hn : ts.length ≤ 20000) (t : Hdr) (g : Nat) (hg : W.cell? ⟨g, 0, none⟩ = some (.slice t.1 t.2.2.length t.2.1)) (ty : TypeId) :
    ∃ v' W', (Builtin.append_ #[134, 134] ty #[v, .slice (some ⟨g, 0, none⟩) 1 1]).run Tryz.prog W = .ok v' W' ∧ BT w0 W' B v' (ts ++ [t]) ∧ W.grownBy W' v.ownBlock := by
  obtain ⟨i, hi, hz0, hz1, hz2⟩ := info_parts info23
  obtain ⟨v', W', hr, h1, h2, _⟩ := run_append_own_at (P := Tryz.prog) W B 134 ty 25 i _ 1 24 Tryz.underlying134 hi hz0 hz1 hz2 rfl (by decide) v _ _ h.own ⟨g, 0, none⟩ 1 1 [.slice t.1 t.2.2.length t.2.1] rfl (fun j x hj => by
    cases j with
    | zero => cases hj; rw [addr_add]; exact hg
    | succ j => simp at hj) (fun x hx => by rw [List.mem_singleton.1 hx]; rfl) (by unfold maxLen; omega) (by omega) h.le
  refine ⟨v', W', hr, ⟨h.below.grown h2 h.le (fun k hk => (own_lt h.own k hk).1), ?_, Nat.le_trans h.le h2.size⟩, h2⟩
  rw [List.length_append, List.flatMap_append]
  exact h1
theorem bt_nil (w : World) (B : Nat) (h : B = w.heap.size) : BT w w B (.slice none 0 0) [] := ⟨Below.refl _ _, ⟨rfl, .inl ⟨rfl, rfl⟩⟩, by omega⟩
theorem Tryz.results68 : Tryz.f68.results = #[.tmp 2, .tmp 3] := by kernel_rfl
def PostLd (s : Str) (w : World) (e : Ending) (w' : World) : Prop :=
  Below w.heap.size w w' ∧ ((∃ ls, okL ls ∧ s = pktL ls ∧ ∃ v ts, e = .returned (.tuple #[v, .bool true]) ∧ BT w w' w.heap.size v ts ∧ AT w ts ∧ ts.map (·.2.2) = ls) ∨ ((¬ ∃ ls, okL ls ∧ s = pktL ls) ∧ e = .returned (.tuple #[.slice none 0 0, .bool false])))
set_option maxRecDepth 20000 in
set_option maxHeartbeats 4000000 in
theorem refLines_any {w : World} (a : Option Addr) (cap : Nat) (s : Str) (hP : PB w a cap s) (hl : s.length ≤ 70000) : Calls Tryz.prog 68 #[.slice a s.length cap] w (PostLd s w) := by
  obtain ⟨B, HB⟩ : ∃ B, Hid (w.heap.size = B) := ⟨_, rfl⟩
  have HL0 : Hid (s.length ≤ 70000) := hl
  obtain ⟨m, HM⟩ : ∃ m, Hid (s.length = m) := ⟨_, rfl⟩
  have hm : m ≤ 70000 := by rw [← HM.out]; exact hl
  have HBW : Hid (∀ (aa : Option Addr) (cc : Nat) (r : Str), PB w aa cc r → ∀ W, Below B w W → PB W aa cc r) := fun aa cc r h W hW => h.below (by rw [HB.out]; exact hW)
  have HP := hid hP
  have S0 : Hid (BT w w B (.slice none 0 0) []) := hid (bt_nil w B HB.out.symm)
  rw [HM.out]
  clear hP hl
  go_enter Tryz.func68, Tryz.ntmps68
  go_wp2_with fail
  go_loopg [0, 4] m (fun gg bv0 lv wr => ∃ (aa : Option Addr) (k cc : Nat) (r : Str) (dn : List Str) (ts : List Hdr), bv0 = .slice aa k cc ∧ k = gg ∧ Hid (r.length = k) ∧ Hid (PB w aa cc r) ∧ Hid (s = pktL dn ++ r) ∧ Hid (okL dn) ∧ Hid (BT w wr B lv ts) ∧ Hid (AT w ts ∧ ts.map (·.2.2) = dn) ∧ Hid (dn.length * 4 + r.length ≤ m))
  case atStart => exact ⟨a, m, cap, s, [], [], rfl, rfl, HM, HP, hid rfl, hid (fun x hx => by simp at hx), S0, hid ⟨fun t ht => by simp at ht, rfl⟩, hid (by rw [HM.out]; simp)⟩
  case round =>
    obtain ⟨aa, k, cc, r, dn, ts, rfl, hk, HRL, HPR, HE, HOK, HLL, HAT, HC⟩ := hrel
    have hkm : k ≤ m := by have := HC.out; rw [HRL.out] at this; omega
    by_cases h0 : 0 < k
    · have h0i : (0 : Int) < (k : Int) := by omega
      have C23 : Hid (Calls Tryz.prog 84 #[.slice aa k cc] wr (PostNx aa cc r wr)) := hid (by
        have := next_any aa cc r (HBW.out _ _ _ HPR.out wr HLL.out.below) (by rw [HRL.out]; omega)
        rw [HRL.out] at this
        exact this)
      have HKG : Hid (k = gk) := hk
      clear hk
      go_wp2_with fail
      refine C23.out.mono ?_
      rintro e w1 ⟨hb1, ⟨n, hf, rfl⟩ | ⟨hno, rfl⟩⟩
      · have HF := hid hf
        have HLL1 : Hid (BT w w1 B u4 ts) := hid (HLL.out.carry hb1)
        obtain ⟨hpk, hsl⟩ := fst_pkt hf
        have hfl := hf.2.1
        have hf1 := hf.1
        rw [HRL.out] at hfl
        obtain ⟨x, HX⟩ : ∃ x, Hid ((r.drop 4).take n = x) := ⟨_, rfl⟩
        rw [HX.out] at hpk hsl
        have HXL := hid hsl
        have hsome : ∃ p, aa = some p := by
          obtain ⟨b, off, e1, _⟩ := HPR.out.at_ (by rw [HRL.out]; exact h0)
          exact ⟨_, e1⟩
        obtain ⟨p, hp⟩ := adX_some (cap := cc) (j := 4) hsome
        obtain ⟨A2, HA2⟩ : ∃ y, Hid (adX 1 aa cc (4 + n) = y) := ⟨_, rfl⟩
        obtain ⟨c2, HC2⟩ : ∃ y, Hid (cc - (4 + n) = y) := ⟨_, rfl⟩
        obtain ⟨k2, HK2⟩ : ∃ y, Hid (k - (4 + n) = y) := ⟨_, rfl⟩
        obtain ⟨c4, HC4⟩ : ∃ y, Hid (cc - 4 = y) := ⟨_, rfl⟩
        have HPL : Hid (PB w (some p) c4 x) := hid (by
          have := Px.mid HPR.out 4 (4 + n) (by omega) (by rw [HRL.out]; omega)
          rw [hp, HC4.out, show 4 + n - 4 = n by omega, HX.out] at this
          exact this)
        have HPR2 : Hid (PB w A2 c2 (r.drop (4 + n))) := hid (by
          have := Px.from HPR.out (4 + n) (by rw [HRL.out]; omega)
          rw [HA2.out, HC2.out] at this
          exact this)
        have HPK := hid hpk
        have hdl : ts.length ≤ 20000 := by
          have h1 := HC.out
          have h2 := congrArg List.length HAT.out.2
          rw [List.length_map] at h2
          omega
        rw [hp, HA2.out, HC2.out, HRL.out, HK2.out, HC4.out]
        have hbs := run_hdr (.slice (some p) n c4) rfl rfl w1
        obtain ⟨v5, W5, hr5, hl5, hg5⟩ := BT.more (HLL1.out.alloc (.cells #[.slice (some p) n c4] 25)) hdl (some p, c4, x) w1.heap.size (by
          have := cell_of_row (w1.alloc (.cells #[.slice (some p) n c4] 25)) w1.heap.size 0 _ 25 (0, 0) (heap_alloc_new w1 _)
          rw [this]
          show some (Value.slice (some p) n c4) = some (Value.slice (some p) x.length c4)
          rw [HXL.out]) 134
        obtain ⟨W3, HW3⟩ : ∃ W, Hid (w1.alloc (.cells #[.slice (some p) n c4] 25) = W) := ⟨_, rfl⟩
        rw [HW3.out] at hr5 hbs
        have al3 : w1.alloc (.cells #[.slice (some p) n c4] 25) = W3 := HW3.out
        have HL5 : Hid (BT w W5 B v5 (ts ++ [(some p, c4, x)])) := hid hl5
        have HAT2 : Hid (AT w (ts ++ [(some p, c4, x)]) ∧ (ts ++ [(some p, c4, x)]).map (·.2.2) = dn ++ [x]) := hid ⟨fun t ht => (List.mem_append.1 ht).elim (HAT.out.1 t) (fun h => by rw [List.mem_singleton.1 h]; exact HPL.out), by rw [List.map_append, HAT.out.2]; rfl⟩
        have HE2 : Hid (s = pktL (dn ++ [x]) ++ r.drop (4 + n)) := hid (by
          rw [pktL_app, List.append_assoc, show pktL [x] = pkt x by simp [pktL], ← HPK.out]; exact HE.out)
        have HOK2 : Hid (okL (dn ++ [x])) := hid (fun y hy => (List.mem_append.1 hy).elim (HOK.out y) (fun h => by rw [List.mem_singleton.1 h, HXL.out]; exact hf1))
        have HC3 : Hid ((dn ++ [x]).length * 4 + (r.drop (4 + n)).length ≤ m) := hid (by
          rw [List.length_append, List.length_singleton, List.length_drop, HRL.out]
          have := HC.out
          rw [HRL.out] at this
          omega)
        have HRL2 : Hid ((r.drop (4 + n)).length = k2) := hid (by rw [List.length_drop, HRL.out, HK2.out])
        have hk2 : k2 < k := by rw [← HK2.out]; omega
        clear hf hb1 hpk hsl hl5 hg5
        go_wp2_with (first | (refine wpList_bSY rfl 134 1 _ rfl (.slice (some p) n c4) _ rfl hbs ?_) | (at_builtin; refine wpList_app rfl _ _ 134 134 rfl 134 rfl _ _ rfl rfl hr5 ?_) | fail)
        go_roundg k2
        case measure => have := HKG.out; omega
        case rel => exact ⟨A2, k2, c2, r.drop (4 + n), dn ++ [x], ts ++ [(some p, c4, x)], rfl, rfl, HRL2, HPR2, HE2, HOK2, HL5, HAT2, HC3⟩
      · have HNO : Hid (¬ ∃ ls, okL ls ∧ s = pktL ls) := hid (by
          rintro ⟨ls, h1, h2⟩
          obtain ⟨rest, h3, h4⟩ := pktL_pre dn ls r HOK.out h1 (by rw [← h2]; exact HE.out)
          cases rest with
          | nil =>
            have := congrArg List.length h4
            rw [HRL.out] at this
            simp [pktL] at this
            omega
          | cons x rest =>
            refine hno ⟨x.length, ?_⟩
            rw [h4]
            exact pkt_fst x (pktL rest) (h1 x (by rw [h3]; simp)))
        have HB2 : Hid (Below w.heap.size w w1) := hid (by rw [HB.out]; exact HLL.out.below.trans (hb1.mono HLL.out.le))
        clear hno hb1
        go_wp2
        refine bodyPost_ret (results_tmp2 Tryz.results68 _ _ _) rfl ?_
        exact ⟨HB2.out, .inr ⟨HNO.out, rfl⟩⟩
    · have h0i : ¬ (0 : Int) < (k : Int) := by omega
      have HE2 : Hid (s = pktL dn) := hid (by
        have hr : r = [] := List.length_eq_zero_iff.1 (by rw [HRL.out]; omega)
        have := HE.out
        rw [hr, List.append_nil] at this
        exact this)
      clear hk
      go_wp2
      refine bodyPost_ret (results_tmp2 Tryz.results68 _ _ _) rfl ?_
      exact ⟨by rw [HB.out]; exact HLL.out.below, .inl ⟨dn, HOK.out, HE2.out, _, ts, rfl, by rw [HB.out]; exact HLL.out, HAT.out.1, HAT.out.2⟩⟩
end Go.Proofs.YtijeogdnjeamaaaGreatDoor
