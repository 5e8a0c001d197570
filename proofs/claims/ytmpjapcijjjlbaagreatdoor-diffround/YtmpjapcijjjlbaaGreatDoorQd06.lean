import Derived.Test.YtmpjapcijjjlbaaGreatDoorQd05
namespace Go.Proofs.YtmpjapcijjjlbaaGreatDoor
open Go.RowKit
set_option linter.unusedVariables false
set_option linter.unusedSimpArgs false
structure QW (g : Nat) (k : Int) (X : ByteArray) (W : World) : Prop where
  c0 : W.cell? ⟨g, 0, none⟩ = some (.int .i64 k)
  c1 : W.cell? ⟨g, 1, none⟩ = some (.string X)
set_option maxRecDepth 20000 in
set_option maxHeartbeats 1000000 in
theorem writeEdit_any (k : Nat) (x : Str) (hk : k ≤ 2) (hx : x.length ≤ 1000000) (w : World) : Calls Tryz.prog 32 #[.agg #[.int .i64 (k : Int), .string ⟨x.toArray⟩]] w fun e w' => e = .returned (.string ⟨(lineT (k, x)).toArray⟩) ∧ Below w.heap.size w w' := by
  have HC : Hid (∀ W, Calls Tryz.prog 56 #[.string ⟨x.toArray⟩] W fun e w' => e = .returned (.bool (decide (x.getLast? = some 10))) ∧ w' = W) := fun W => hasEnd_any x (by omega) W
  obtain ⟨X, HX⟩ : ∃ X, Hid ((⟨x.toArray⟩ : ByteArray) = X) := ⟨_, rfl⟩
  obtain ⟨r, HR⟩ : ∃ r, Hid (decide (x.getLast? = some 10) = r) := ⟨_, rfl⟩
  obtain ⟨R, HRR⟩ : ∃ X, Hid ((⟨(lineT (k, x)).toArray⟩ : ByteArray) = X) := ⟨_, rfl⟩
  obtain ⟨S, HS⟩ : ∃ X, Hid ((⟨[sgn k].toArray⟩ : ByteArray) = X) := ⟨_, rfl⟩
  have hX : X.size ≤ 1000000 := by rw [← HX.out]; simpa [ByteArray.size] using hx
  have hS : S.size = 1 := by rw [← HS.out]; rfl
  have hSX : (S ++ X).size = X.size + 1 := by rw [ByteArray.size_append, hS]; omega
  have h1 : ¬ 9223372036854775807 < S.size + X.size := by omega
  have h2 : ¬ 9223372036854775807 < (S ++ X).size + 29 := by omega
  rw [HX.out, HR.out] at HC
  have HE1 : Hid (r = true → S ++ X = R) := fun hr => by
    have : x.getLast? = some 10 := by rw [← HR.out] at hr; simpa using hr
    rw [← HRR.out, ← HS.out, ← HX.out, str_add, lineT, if_pos this]; simp
  have HE2 : Hid (r = false → S ++ X ++ ⟨#[10, 92, 32, 78, 111, 32, 110, 101, 119, 108, 105, 110, 101, 32, 97, 116, 32, 101, 110, 100, 32, 111, 102, 32, 102, 105, 108, 101, 10]⟩ = R) := fun hr => by
    have : ¬ x.getLast? = some 10 := by rw [← HR.out] at hr; simpa using hr
    rw [← HRR.out, ← HS.out, ← HX.out, show (⟨#[10, 92, 32, 78, 111, 32, 110, 101, 119, 108, 105, 110, 101, 32, 97, 116, 32, 101, 110, 100, 32, 111, 102, 32, 102, 105, 108, 101, 10]⟩ : ByteArray) = ⟨noE.toArray⟩ from rfl, str_add, str_add, lineT, if_neg this]; simp
  have HEX : Hid ((⟨#[32, 45, 43]⟩ : ByteArray).extract k (k + 1) = S) := hid (by
    rw [← HS.out]
    rcases (by omega : k = 0 ∨ k = 1 ∨ k = 2) with rfl | rfl | rfl <;> rfl)
  rw [HX.out, HRR.out]
  obtain ⟨w0, HW0⟩ : ∃ w0, Hid (w.alloc (.cells #[.int .i64 (k : Int), .string X] 43) = w0) := ⟨_, rfl⟩
  obtain ⟨g, HG⟩ : ∃ g, Hid (w.heap.size = g) := ⟨_, rfl⟩
  have HB0 : Hid (Below g w w0) := hid (by rw [← HW0.out, ← HG.out]; exact (Below.refl _ w).alloc (Nat.le_refl _) _)
  have hg0 : g < w0.heap.size := by rw [← HW0.out, ← HG.out]; simp
  have hc0 : w0.cell? ⟨g, 0, none⟩ = some (.int .i64 k) := by rw [← HW0.out, ← HG.out]; simp
  have hc1 : w0.cell? ⟨g, 1, none⟩ = some (.string X) := by rw [← HW0.out, ← HG.out]; simp
  go_enter Tryz.func32, Tryz.ntmps32
  rw [HG.out]
  go_wp2_with fail
  rw [HW0.out, HG.out]
  have HQ : Hid (QW g k X w0.drew) := hid ⟨hc0, hc1⟩
  have hk1 : IntKind.i64.wrap ((k : Int) + 1) = (k : Int) + 1 := by rw [IntKind.wrap_i64]; omega
  have hk2 : (0 ≤ (k : Int) + 1 ∧ (k : Int) + 1 ≤ 3) := by omega
  have hk3 : ((k : Int) + 1).toNat = k + 1 := by omega
  have hk4 : (k : Int) ≤ (k : Int) + 1 := by omega
  refine wp_region_held_drew (S := QW g k X) (by kernel_rfl) HQ.out (fun hHeld => ?_)
  refine takeL (i := 0) (v := ?_) rfl (by kernel_rfl) (by kernel_rfl) (by kernel_rfl) (fun _ _ _ h => h) (Or.inl ⟨by rfl, ?_⟩) hHeld ?_
  rotate_left
  · rintro w' ⟨s0, s1⟩; go_simp; rfl
  try simp only [Act.put, List.setIfInBounds_toArray, List.set_cons_zero, List.set_cons_succ]
  refine takeL (i := 1) (v := ?_) rfl (by kernel_rfl) (by kernel_rfl) (by kernel_rfl) (fun _ _ _ h => h) (Or.inl ⟨by rfl, ?_⟩) hHeld ?_
  rotate_left
  · rintro w' ⟨s0, s1⟩; go_simp; rfl
  try simp only [Act.put, List.setIfInBounds_toArray, List.set_cons_zero, List.set_cons_succ]
  refine takeL (i := 2) (v := ?_) rfl (by kernel_rfl) (by kernel_rfl) (by kernel_rfl) (fun _ _ _ h => h) (Or.inl ⟨by rfl, ?_⟩) hHeld ?_
  rotate_left
  · rintro w' ⟨s0, s1⟩; go_simp; rfl
  try simp only [Act.put, List.setIfInBounds_toArray, List.set_cons_zero, List.set_cons_succ]
  refine takeL (i := 3) (v := ?_) rfl (by kernel_rfl) (by kernel_rfl) (by kernel_rfl) (fun _ _ _ h => h) (Or.inl ⟨by rfl, ?_⟩) hHeld ?_
  rotate_left
  · rintro w' ⟨s0, s1⟩; go_simp; rfl
  try simp only [Act.put, List.setIfInBounds_toArray, List.set_cons_zero, List.set_cons_succ]
  refine takeL (i := 4) (v := .int .i64 ((k : Int) + 1)) rfl (by kernel_rfl) (by kernel_rfl) (by kernel_rfl) (fun _ _ _ h => h) (Or.inl ⟨by rfl, ?_⟩) hHeld ?_
  · rintro w' ⟨s0, s1⟩; go_simp; try rw [hk1]
  try simp only [Act.put, List.setIfInBounds_toArray, List.set_cons_zero, List.set_cons_succ]
  refine takeL (i := 5) (v := .string S) rfl (by kernel_rfl) (by kernel_rfl) (by kernel_rfl) (fun _ _ _ h => h) (Or.inl ⟨by rfl, ?_⟩) hHeld ?_
  · rintro w' ⟨s0, s1⟩; go_simp; try rw [HEX.out]
  try simp only [Act.put, List.setIfInBounds_toArray, List.set_cons_zero, List.set_cons_succ]
  refine takeL (i := 6) (v := ?_) rfl (by kernel_rfl) (by kernel_rfl) (by kernel_rfl) (fun _ _ _ h => h) (Or.inl ⟨by rfl, ?_⟩) hHeld ?_
  rotate_left
  · rintro w' ⟨s0, s1⟩; go_simp; rfl
  try simp only [Act.put, List.setIfInBounds_toArray, List.set_cons_zero, List.set_cons_succ]
  refine takeL (i := 7) (v := ?_) rfl (by kernel_rfl) (by kernel_rfl) (by kernel_rfl) (fun _ _ _ h => h) (Or.inl ⟨by rfl, ?_⟩) hHeld ?_
  rotate_left
  · rintro w' ⟨s0, s1⟩; go_simp; rfl
  try simp only [Act.put, List.setIfInBounds_toArray, List.set_cons_zero, List.set_cons_succ]
  refine takeL (i := 8) (v := .string (S ++ X)) rfl (by kernel_rfl) (by kernel_rfl) (by kernel_rfl) (fun _ _ _ h => h) (Or.inl ⟨by rfl, ?_⟩) hHeld ?_
  · rintro w' ⟨s0, s1⟩; go_simp; first | done | omega | (first | rfl | omega)
  try simp only [Act.put, List.setIfInBounds_toArray, List.set_cons_zero, List.set_cons_succ]
  refine takeL (i := 9) (v := ?_) rfl (by kernel_rfl) (by kernel_rfl) (by kernel_rfl) (fun _ _ _ h => h) (Or.inl ⟨by rfl, ?_⟩) hHeld ?_
  rotate_left
  · rintro w' ⟨s0, s1⟩; go_simp; rfl
  try simp only [Act.put, List.setIfInBounds_toArray, List.set_cons_zero, List.set_cons_succ]
  refine wpAnyH_done (by kernel_rfl) ?_ _
  clear hHeld
  go_wp2_with fail
  refine (HC.out _).mono ?_
  rintro e w' ⟨rfl, rfl⟩
  have HBD : Hid (Below g w w0.drew) := hid (HB0.out.trans ⟨rfl, rfl, rfl, Nat.le_refl _, fun _ _ => rfl⟩)
  cases hr : r
  · go_wp2
    go_ret
    exact ⟨(show _ = Ending.returned (.string (S ++ X ++ ⟨#[10, 92, 32, 78, 111, 32, 110, 101, 119, 108, 105, 110, 101, 32, 97, 116, 32, 101, 110, 100, 32, 111, 102, 32, 102, 105, 108, 101, 10]⟩)) from rfl).trans (by rw [HE2.out hr]), HBD.out⟩
  · go_wp2
    go_ret
    exact ⟨(show _ = Ending.returned (.string (S ++ X)) from rfl).trans (by rw [HE1.out hr]), HBD.out⟩
end Go.Proofs.YtmpjapcijjjlbaaGreatDoor
namespace Go.Proofs.YtmpjapcijjjlbaaGreatDoor
open Go.RowKit
set_option linter.unusedVariables false
set_option linter.unusedSimpArgs false
theorem cell_ltA {w : World} {a : Addr} {v : Value} (h : w.cell? a = some v) : a.block < w.heap.size := by
  rcases Nat.lt_or_ge a.block w.heap.size with h' | h'
  · exact h'
  · simp [World.cell?, Array.getElem?_eq_none h'] at h
theorem there_off {w : World} {g n : Nat} {cs : Array Value} {t : TypeId} (h : w.heap[g]? = some (.cells cs t (0, 0))) (o : Nat) (hn : o + n ≤ cs.size) : w.there g o n := fun j hj => by
  refine ⟨?_, frozen_of_row w g (o + j) _ _ h⟩
  rw [cell_of_row w g (o + j) _ _ _ h, Array.getElem?_eq_getElem (by omega)]
  rfl
structure Ers (w : World) : Prop where
  s : ∃ ev, w.cell? ⟨2, 0, none⟩ = some ev ∧ (ev = .nilIface ∨ ∃ te pe, ev = .iface te pe)
  r : ∃ ev, w.cell? ⟨3, 0, none⟩ = some ev ∧ (ev = .nilIface ∨ ∃ te pe, ev = .iface te pe)
theorem Ers.below {w w' : World} (h : Ers w) (hb : Below w.heap.size w w') : Ers w' := by
  obtain ⟨⟨e1, h1, k1⟩, ⟨e2, h2, k2⟩⟩ := h
  exact ⟨⟨e1, (hb.cell (p := ⟨2, 0, none⟩) (cell_ltA h1)).trans h1, k1⟩, ⟨e2, (hb.cell (p := ⟨3, 0, none⟩) (cell_ltA h2)).trans h2, k2⟩⟩
def Mx (w : World) : Prop := ∃ m, w.cell? ⟨1, 0, none⟩ = some (.int .i64 m)
theorem Mx.below {w w' : World} (h : Mx w) (hb : Below w.heap.size w w') : Mx w' := by
  obtain ⟨m, h⟩ := h
  exact ⟨m, (hb.cell (p := ⟨1, 0, none⟩) (cell_ltA h)).trans h⟩
theorem cutStr (s p : Str) (hs : s.length ≤ 1000000) (w : World) (hm : Mx w) : Calls Tryz.prog 76 #[.string ⟨s.toArray⟩, .string ⟨p.toArray⟩] w fun e w' => e = .returned (.tuple #[.string ⟨(Lib.cut s p).1.toArray⟩, .string ⟨(Lib.cut s p).2.1.toArray⟩, .bool (Lib.cut s p).2.2]) ∧ Below w.heap.size w w' := by
  obtain ⟨m, hm⟩ := hm
  refine (Any.strings_Cut Tryz.lays145 ⟨s.toArray⟩ ⟨p.toArray⟩ m w (by rw [txt_len]; omega) hm).mono ?_
  rintro e w' ⟨rfl, n, rfl⟩
  exact ⟨rfl, below_drewH (Below.refl _ _) n⟩
theorem cut_le1 (s sep : List UInt8) : (Lib.cut s sep).1.length ≤ s.length := by
  unfold Lib.cut
  split
  · simp only [List.length_take]; omega
  · simp
theorem parseU32 (s : Str) (hs : s.length ≤ 1000000) (w : World) (he : Ers w) : Calls Tryz.prog 78 #[.string ⟨s.toArray⟩, .int .i64 10, .int .i64 32] w fun e w' => (∃ ev, e = .returned (.tuple #[.int .u64 (puV s : Nat), ev])) ∧ Below w.heap.size w w' := by
  cases h : Lib.parseUintB 32 s with
  | ok v =>
    refine (Any.strconv_ParseUint_10_at32_ok Tryz.laysPu14 ⟨s.toArray⟩ (by rw [txt_len]; omega) v h w).mono ?_
    rintro e w' ⟨rfl, hw⟩
    refine ⟨⟨_, by unfold puV; rw [h]⟩, ?_⟩
    rcases hw with rfl | rfl
    · exact Below.refl _ _
    · exact ⟨rfl, rfl, rfl, by rw [Lib.bytesWorld_size]; omega, fun j hj => Lib.bytesWorld_at_old _ _ _ j hj⟩
  | «syntax» =>
    obtain ⟨ev, h1, h2⟩ := he.s
    refine (Any.strconv_ParseUint_10_at32_syntax Tryz.laysPu14 ⟨s.toArray⟩ (by rw [txt_len]; omega) h ev w h1 h2).mono ?_
    rintro e w' ⟨M, rfl, _, _, hb⟩
    exact ⟨⟨_, by unfold puV; rw [h]; rfl⟩, hb⟩
  | range =>
    obtain ⟨ev, h1, h2⟩ := he.r
    refine (Any.strconv_ParseUint_10_at32_range Tryz.laysPu14 ⟨s.toArray⟩ (by rw [txt_len]; omega) h ev w h1 h2).mono ?_
    rintro e w' ⟨M, rfl, _, _, hb⟩
    exact ⟨⟨_, by unfold puV; rw [h]; rfl⟩, hb⟩
theorem puV_le (s : Str) : puV s ≤ 4294967295 := by
  unfold puV
  split
  · rename_i u h
    exact Lib.parseUintB_le h
  · omega
  · omega
theorem trP_len (x p : Str) : (Lib.trimPrefix x p).length ≤ x.length := by
  unfold Lib.trimPrefix
  split
  · rw [List.length_drop]; omega
  · exact Nat.le_refl _
set_option maxRecDepth 20000 in
theorem readStart_any (x : Str) (hx : x.length ≤ 1000000) (w : World) (he : Ers w) (hm : Mx w) : Calls Tryz.prog 58 #[.string ⟨x.toArray⟩] w fun e w' => e = .returned (.int .i64 (rdA x : Nat)) ∧ Below w.heap.size w w' := by
  obtain ⟨X, HX⟩ : ∃ X : ByteArray, Hid (⟨x.toArray⟩ = X) := ⟨_, hid rfl⟩
  obtain ⟨T, HT⟩ : ∃ X : ByteArray, Hid (⟨(Lib.trimPrefix x hdS).toArray⟩ = X) := ⟨_, hid rfl⟩
  obtain ⟨d, HD⟩ : ∃ d, Hid ((Lib.cut (Lib.trimPrefix x hdS) [44]).1 = d) := ⟨_, rfl⟩
  obtain ⟨D, HDD⟩ : ∃ X : ByteArray, Hid (⟨d.toArray⟩ = X) := ⟨_, hid rfl⟩
  obtain ⟨R, HR⟩ : ∃ X : ByteArray, Hid (⟨(Lib.cut (Lib.trimPrefix x hdS) [44]).2.1.toArray⟩ = X) := ⟨_, hid rfl⟩
  obtain ⟨b, HBB⟩ : ∃ b, Hid ((Lib.cut (Lib.trimPrefix x hdS) [44]).2.2 = b) := ⟨_, rfl⟩
  obtain ⟨v, HV⟩ : ∃ v, Hid (puV d = v) := ⟨_, rfl⟩
  have hv : v ≤ 4294967295 := by rw [← HV.out]; exact puV_le d
  have hwr : IntKind.i64.wrap (v : Int) = (v : Int) := by rw [IntKind.wrap_i64]; omega
  have htl := trP_len x hdS
  have hdl : d.length ≤ 1000000 := by rw [← HD.out]; have := cut_le1 (Lib.trimPrefix x hdS) [44]; omega
  have C77 : Hid (Calls Tryz.prog 77 #[.string X, .string ⟨#[64, 64, 32, 45]⟩] w fun e w' => e = .returned (.string T) ∧ w' = w) := hid (by
    rw [← HX.out, ← HT.out]
    exact Any.strings_TrimPrefix Tryz.lays101 ⟨x.toArray⟩ ⟨#[64, 64, 32, 45]⟩ w)
  have C76 : Hid (Calls Tryz.prog 76 #[.string T, .string ⟨#[44]⟩] w fun e w' => e = .returned (.tuple #[.string D, .string R, .bool b]) ∧ Below w.heap.size w w') := hid (by
    have := cutStr (Lib.trimPrefix x hdS) [44] (by omega) w hm
    rw [HD.out, HT.out, HDD.out, HR.out, HBB.out] at this
    exact this)
  have C78 : Hid (∀ W, Below w.heap.size w W → Calls Tryz.prog 78 #[.string D, .int .i64 10, .int .i64 32] W fun e w' => (∃ ev, e = .returned (.tuple #[.int .u64 (v : Nat), ev])) ∧ Below W.heap.size W w') := hid (fun W hW => by
    rw [← HV.out, ← HDD.out]
    exact parseU32 d hdl W (he.below hW))
  have HF : Hid (rdA x = v) := hid (by unfold rdA; rw [HD.out]; exact HV.out)
  rw [HF.out, HX.out]
  clear hx he hm htl hdl
  go_enter Tryz.func58, Tryz.ntmps58
  go_wp2_with fail
  refine C77.out.mono ?_
  rintro e w1 ⟨rfl, rfl⟩
  go_wp2_with fail
  refine C76.out.mono ?_
  rintro e w2 ⟨rfl, hb2⟩
  have HB2 := hid hb2
  clear hb2
  go_wp2_with fail
  refine (C78.out w2 HB2.out).mono ?_
  rintro e w3 ⟨⟨ev, rfl⟩, hb3⟩
  have HB3 : Hid (Below w1.heap.size w1 w3) := hid (HB2.out.trans (hb3.mono HB2.out.size))
  clear hb3
  go_wp2
  go_ret
  exact ⟨rfl, HB3.out⟩
theorem idx_kd (c : UInt8) : max (Lib.indexByte [32, 45, 43] c) 0 = (kdO c : Int) := by
  unfold kdO
  simp only [Lib.indexByte]
  by_cases h1 : c = 32
  · subst h1; decide
  · by_cases h2 : c = 45
    · subst h2; decide
    · by_cases h3 : c = 43
      · subst h3; decide
      · have e1 : ¬ (32 : UInt8) = c := fun e => h1 e.symm
        have e2 : ¬ (45 : UInt8) = c := fun e => h2 e.symm
        have e3 : ¬ (43 : UInt8) = c := fun e => h3 e.symm
        simp [h1, h2, h3, e1, e2, e3]
        rfl
theorem kdO_le (c : UInt8) : kdO c ≤ 2 := by
  unfold kdO
  split
  · omega
  · split <;> omega
theorem Tryz.results60 : Tryz.f60.results = #[.cell 2 43] := by kernel_rfl
theorem und43 : ∃ d, Tryz.prog.underlying 43 = some d ∧ d.isRow = true := ⟨_, Tryz.underlying43, rfl⟩
theorem size43 : (Tryz.prog.info? 43).map (·.size) = some 2 := by kernel_rfl
set_option maxRecDepth 20000 in
theorem readEdit_any (x : Str) (h0 : x ≠ []) (hx : x.length ≤ 1000000) (w : World) : Calls Tryz.prog 60 #[.string ⟨x.toArray⟩] w fun e w' => e = .returned (.agg (encE (rdE x)).toArray) ∧ Below w.heap.size w w' := by
  obtain ⟨c, r, rfl⟩ : ∃ c r, x = c :: r := by
    cases x with
    | nil => exact absurd rfl h0
    | cons c r => exact ⟨c, r, rfl⟩
  obtain ⟨X, HX⟩ : ∃ X : ByteArray, Hid (⟨(c :: r).toArray⟩ = X) := ⟨_, hid rfl⟩
  obtain ⟨R, HR⟩ : ∃ X : ByteArray, Hid (⟨r.toArray⟩ = X) := ⟨_, hid rfl⟩
  obtain ⟨q, HQ⟩ : ∃ q, Hid (X.size = q) := ⟨_, rfl⟩
  have hq1 : q = r.length + 1 := by rw [← HQ.out, ← HX.out, txt_len]; rfl
  have hq : 1 ≤ q ∧ q ≤ 1000000 := by simp at hx; omega
  have hs1 : ∀ W : World, (Instr.slice 9 (.string X) none (some (.int .i64 1)) none).run Tryz.prog W = .ok (.string ⟨#[c]⟩) W := fun W => by
    have := slc_to (c :: r) 1 1 rfl (by simp) W
    rw [← HX.out]
    exact this
  have hs2 : ∀ W : World, (Instr.slice 9 (.string X) (some (.int .i64 1)) none none).run Tryz.prog W = .ok (.string R) W := fun W => by
    have := slc_from (c :: r) 1 1 rfl (by simp) W
    rw [← HX.out, ← HR.out]
    exact this
  obtain ⟨ix, HI⟩ : ∃ i, Hid (Lib.indexByte [32, 45, 43] c = i) := ⟨_, rfl⟩
  obtain ⟨k, HK⟩ : ∃ k, Hid (kdO c = k) := ⟨_, rfl⟩
  have hmx : max ix 0 = (k : Int) := by rw [← HI.out, ← HK.out]; exact idx_kd c
  have C80 : Hid (∀ W : World, Calls Tryz.prog 80 #[.string ⟨#[32, 45, 43]⟩, .string ⟨#[c]⟩] W fun e w' => e = .returned (.int .i64 ix) ∧ w' = W) := hid (fun W => by
    rw [← HI.out]
    exact Any.strings_Index_one Tryz.lays143 ⟨#[32, 45, 43]⟩ c W)
  obtain ⟨G, HG⟩ : ∃ n, Hid (w.heap.size = n) := ⟨_, rfl⟩
  obtain ⟨w1, HW1⟩ : ∃ u, Hid (w.alloc (.cells #[.int .i64 0, .string ⟨#[]⟩] 43) = u) := ⟨_, rfl⟩
  have HB1 : Hid (Below G w w1) := hid (by rw [← HW1.out, ← HG.out]; exact (Below.refl _ w).alloc (Nat.le_refl _) _)
  have hh1 : w1.heap[G]? = some (.cells #[.int .i64 0, .string ⟨#[]⟩] 43 (0, 0)) := by rw [← HW1.out, ← HG.out]; exact World.alloc_heap_new w _
  have ht1 : w1.there G 0 (#[.int .i64 (k : Int), .string R] : Array Value).size := there_off hh1 0 (by simp)
  obtain ⟨w2, HW2⟩ : ∃ u, Hid (w1.setCells G 0 (#[.int .i64 (k : Int), .string R] : Array Value).toList = u) := ⟨_, rfl⟩
  have R2 : Hid (w2.rangeAt G 0 [.int .i64 (k : Int), .string R]) := hid (by rw [← HW2.out]; exact World.rangeAt_setCells_same _ _ 0 _ (by simpa using ht1))
  have HB2 : Hid (Below G w w2) := hid (by rw [← HW2.out]; exact below_setCells (Nat.le_refl _) _ _ _ _ HB1.out)
  have T1 := hid ht1
  have T2 : Hid ((Tryz.prog.info? 43).map (·.size) = some (#[.int .i64 (k : Int), .string R] : Array Value).size) := hid size43
  have T3 : Hid ((#[.int .i64 (k : Int), .string R] : Array Value).all (·.oneCell') = true) := hid (by simp [Value.oneCell'])
  obtain ⟨d, hd1, hd2⟩ := und43
  have HD1 := hid hd1
  have HD2 := hid hd2
  have HF : Hid (encE (rdE (c :: r)) = [.int .i64 (k : Int), .string R]) := hid (by
    unfold encE rdE
    simp only [List.headD_cons, List.drop_succ_cons, List.drop_zero]
    rw [HK.out]
    unfold sV
    rw [HR.out])
  have al1 : w.alloc (.cells #[.int .i64 0, .string ⟨#[]⟩] 43) = w1 := HW1.out
  have hs0 : w.heap.size = G := HG.out
  rw [HF.out, HX.out, HG.out]
  clear hx h0 hh1 ht1 hd1 hd2 hq1
  go_enter Tryz.func60, Tryz.ntmps60
  go_wp2_with fail
  refine (C80.out _).mono ?_
  rintro e w5 ⟨rfl, rfl⟩
  go_wp2_with (first
    | (refine wpList_store_mid rfl 43 _ _ rfl G 0 #[.int .i64 (k : Int), .string R] rfl rfl T1.out T2.out T3.out ?_; rw [HW2.out])
    | fail)
  refine bodyPost_ret (results_mid Tryz.results60 _ _ G [.int .i64 (k : Int), .string R] _ rfl R2.out HD1.out HD2.out size43) rfl ?_
  exact ⟨rfl, HB2.out⟩
end Go.Proofs.YtmpjapcijjjlbaaGreatDoor
namespace Go.Proofs.YtmpjapcijjjlbaaGreatDoor
open Go.RowKit
set_option linter.unusedVariables false
set_option linter.unusedSimpArgs false
def encP (x : Sp) : List Value := [.int .i64 (x.1 : Int), .int .i64 (x.2 : Int)]
abbrev PP (w : World) (a : Option Addr) (cap : Nat) (l : List Sp) : Prop := Px encP 2 (0, 0) w a cap l
abbrev BP (w0 w : World) (B : Nat) (v : Value) (l : List Sp) : Prop := Bx encP 2 81 w0 w B v l
theorem encP_len (x : Sp) : (encP x).length = 2 := rfl
theorem encP_one (x : Sp) : ∀ v ∈ encP x, v.oneCell' = true := fun v hv => by
  rcases List.mem_cons.1 hv with rfl | hv
  · rfl
  · rw [List.mem_singleton.1 hv]; rfl
theorem Tryz.info81 : (Tryz.prog.info? 81).map (fun i => (i.zero, i.size, i.bytes)) = some (some (.agg #[.int .i64 0, .int .i64 0]), 2, 16) := by kernel_rfl
theorem und51 : Tryz.prog.underlying 78 = some (.slice 81) := by kernel_rfl
theorem run_build51 (x y : Nat) (w : World) : (Instr.buildSlice 78 1 #[(0, .agg #[.int .i64 (x : Int), .int .i64 (y : Int)])]).run Tryz.prog w = .ok (.slice (some ⟨w.heap.size, 0, none⟩) 1 1) (w.alloc (.cells #[.int .i64 (x : Int), .int .i64 (y : Int)] 81)) := by
  obtain ⟨i, hq, hz, hs, _⟩ := info_parts Tryz.info81
  refine run_buildSlice w 78 81 1 _ #[.int .i64 (x : Int), .int .i64 (y : Int)] i _ Tryz.underlying78 hq hz (by rw [hs]; decide) (by rw [hs]; decide) ?_
  rw [hs]
  kernel_rfl
theorem pp_one (x : Sp) (e : TypeId) (w : World) : PP (w.alloc (.cells (encP x).toArray e)) (some ⟨w.heap.size, 0, none⟩) 1 [x] :=
  ⟨by simp, fun _ => ⟨w.heap.size, 0, rfl, by simp, fun i hi => by
    obtain rfl : i = 0 := by simp at hi; omega
    have := range_row (cs := encP x) (heap_alloc_new w (.cells (encP x).toArray e))
    simpa using this⟩, fun h => by cases h⟩
theorem app_sp {w0 wr : World} {G m lc : Nat} {la : Option Addr} {L : List Sp} (hB : BP w0 wr G (.slice la m lc) L) (hLm : L.length = m) (hm : m ≤ 20000) (x : Sp)
    {ops : Array Oper} {rest : List Oper} {o : Oper} {ac : Act} {Q : Exit → Act → World → Prop} (hg : o.guard = none) (s y : Operand) (ho : o.op = .call { callee := .builtin .append, args := #[s, y], argTypes := #[78, 78] }) (hs : ac.eval s = .slice la m lc) (hy : ac.eval y = .slice (some ⟨wr.heap.size, 0, none⟩) 1 1)
    (hK : ∀ a' c' w', Hid (BP w0 w' G (.slice a' (m + 1 : Nat) c') (L ++ [x])) → wpList Tryz.prog ops Q rest (ac.put o.dst (.slice a' (m + 1 : Nat) c')) w') : wpList Tryz.prog ops Q (o :: rest) ac (wr.alloc (.cells #[.int .i64 (x.1 : Int), .int .i64 (x.2 : Int)] 81)) := by
  refine wpList_bx_sl hg s y 78 81 und51 Tryz.info81 rfl (by decide) (by decide) encP_one ho G (.slice la m lc) L hs (hB.alloc _) _ 1 [x] hy (pp_one x 81 wr) (fun x _ => encP_len x) (by rw [hLm]; simp; omega) ?_
  intro v' w' h1 h2
  obtain ⟨a', c', rfl⟩ := owns_shape h1.own
  rw [List.length_append, hLm] at h1 ⊢
  exact hK a' c' w' h1
theorem PP.two {w : World} {b off cap : Nat} {l : List Sp} (h : PP w (some ⟨b, off, none⟩) cap l) (i : Nat) (hi : i < l.length) : w.cell? ⟨b, off + i * 2, none⟩ = some (.int .i64 ((l.getD i (0, 0)).1 : Int)) ∧ w.cell? ⟨b, off + i * 2 + 1, none⟩ = some (.int .i64 ((l.getD i (0, 0)).2 : Int)) := by
  obtain ⟨b', off', e1, _, e3⟩ := h.at_ (by omega)
  cases e1
  have h0 := e3 i hi 0 _ rfl
  have h1 := e3 i hi 1 _ rfl
  exact ⟨h0, h1⟩
theorem flat_len (l : List Sp) : (l.flatMap encP).length = l.length * 2 := fX_len l (fun x _ => encP_len x)
theorem BP.more {w0 w : World} {G n cap g : Nat} {l : List Sp} {p : Sp} (h : BP w0 w G (.slice (some ⟨g, 0, none⟩) n cap) (l ++ [p])) (hn : l.length + 1 = n) (e : Nat) : BP w0 (w.setCell ⟨g, l.length * 2 + 1, none⟩ (.int .i64 (e : Int))) G (.slice (some ⟨g, 0, none⟩) n cap) (l ++ [(p.1, e)]) := by
  have hl : (l ++ [p]).length = n := by simp [hn]
  have ho := h.own
  rw [hl] at ho
  have hG : G ≤ g := (own_lt ho g rfl).1
  have h1 := ho.stored (l.length * 2 + 1) (.int .i64 (e : Int))
  refine ⟨h.below.grown h1.2 h.le (fun k hk => by cases hk; exact hG), ?_, Nat.le_trans h.le h1.2.size⟩
  rw [show (l ++ [(p.1, e)]).length = n by simp [hn]]
  have e2 : ((l ++ [p]).flatMap encP).set (l.length * 2 + 1) (.int .i64 (e : Int)) = (l ++ [(p.1, e)]).flatMap encP := by
    rw [List.flatMap_append, List.flatMap_append, List.set_append_right _ _ (by rw [flat_len]; omega), flat_len, show l.length * 2 + 1 - l.length * 2 = 1 by omega]
    rfl
  rw [← e2]
  exact h1.1
theorem sps_len (L : List Ed) (c : Nat) : ∀ i, (sps L c i).length ≤ i
  | 0 => Nat.le_refl _
  | i + 1 => by
    have := sps_len L c i
    rw [sps]
    split
    · unfold addS
      split
      · simp
      · split
        · rename_i p hp _
          cases h : sps L c i with
          | nil => rw [h] at hp; cases hp
          | cons a r => rw [h] at this; simp at this ⊢; omega
        · simp; omega
    · omega
end Go.Proofs.YtmpjapcijjjlbaaGreatDoor
