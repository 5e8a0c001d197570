import Derived.Test.YtmpjapcijjjlbaaGreatDoorQa03
namespace Go.Proofs.YtmpjapcijjjlbaaGreatDoor
open Go.RowKit
set_option linter.unusedVariables false
set_option linter.unusedSimpArgs false
theorem PE.two {w : World} {b off cap : Nat} {l : List Ed} (h : PE w (some ⟨b, off, none⟩) cap l) (i : Nat) (hi : i < l.length) : w.cell? ⟨b, off + i * 2, none⟩ = some (.int .i64 ((l.getD i (0, [])).1 : Int)) ∧ w.cell? ⟨b, off + i * 2 + 1, none⟩ = some (.string ⟨(l.getD i (0, [])).2.toArray⟩) := by
  obtain ⟨b', off', e1, _, e3⟩ := h.at_ (by omega)
  cases e1
  have h0 := e3 i hi 0 _ rfl
  have h1 := e3 i hi 1 _ rfl
  exact ⟨h0, h1⟩
set_option maxRecDepth 20000 in
set_option maxHeartbeats 2000000 in
theorem count_any {w : World} (a : Option Addr) (ca : Nat) (L : List Ed) (hA : PE w a ca L) (hl : L.length ≤ 1000000) :
    Calls Tryz.prog 35 #[.slice a L.length ca] w fun e w' => e = .returned (.tuple #[.int .i64 (cA L : Nat), .int .i64 (cB L : Nat)]) ∧ Below w.heap.size w w' := by
  obtain ⟨n, HN⟩ : ∃ n, Hid (L.length = n) := ⟨_, rfl⟩
  obtain ⟨G, HG⟩ : ∃ G, Hid (w.heap.size = G) := ⟨_, rfl⟩
  obtain ⟨ra, HRA⟩ : ∃ r, Hid (cA L = r) := ⟨_, rfl⟩
  obtain ⟨rb, HRB⟩ : ∃ r, Hid (cB L = r) := ⟨_, rfl⟩
  have hn4 : n ≤ 1000000 := by rw [← HN.out]; exact hl
  have HPA : Hid (∀ W, Below G w W → PE W a ca L) := fun W hW => hA.below (by rw [HG.out]; exact hW)
  have HFA : Hid (0 < n → ∃ b off, a = some ⟨b, off, none⟩) := fun h0 => by
    obtain ⟨b, off, e1, _⟩ := hA.at_ (by rw [HN.out]; exact h0)
    exact ⟨b, off, e1⟩
  rw [HN.out, HRA.out, HRB.out]
  clear hA hl
  go_enter Tryz.func35, Tryz.ntmps35
  go_wp2_with fail
  go_loopg [2, 3, 8] n (fun gg av bv iv wr => ∃ (i x y : Nat), av = .int .i64 x ∧ bv = .int .i64 y ∧ iv = .int .i64 i ∧ i ≤ n ∧ gg = n - i ∧ x ≤ i ∧ y ≤ i ∧ Hid (cA (L.take i) = x ∧ cB (L.take i) = y) ∧ Hid (Below G w wr))
  case atStart => exact ⟨0, 0, 0, rfl, rfl, rfl, Nat.zero_le _, rfl, Nat.le_refl _, Nat.le_refl _, hid ⟨rfl, rfl⟩, hid (Below.refl _ _)⟩
  case round =>
    obtain ⟨i, x, y, rfl, rfl, rfl, hi, hk, hxi, hyi, HC, HB⟩ := hrel
    by_cases hlt : i < n
    · have hlti : (i : Int) < (n : Int) := by omega
      obtain ⟨b, off, e1⟩ := HFA.out (by omega)
      subst e1
      obtain ⟨k, HK⟩ : ∃ k, Hid ((L.getD i (0, [])).1 = k) := ⟨_, rfl⟩
      obtain ⟨X, HX⟩ : ∃ X, Hid ((⟨(L.getD i (0, [])).2.toArray⟩ : ByteArray) = X) := ⟨_, rfl⟩
      obtain ⟨hc0, hc1⟩ := PE.two (HPA.out _ HB.out) i (by rw [HN.out]; exact hlt)
      rw [HK.out] at hc0
      rw [HX.out] at hc1
      have HA2 : Hid (cA (L.take (i + 1)) = x + (if k = 2 then 0 else 1)) := hid (by rw [take_snocG (0, []) L i (by rw [HN.out]; exact hlt), cA_snoc, HK.out, HC.out.1])
      have HB2 : Hid (cB (L.take (i + 1)) = y + (if k = 1 then 0 else 1)) := hid (by rw [take_snocG (0, []) L i (by rw [HN.out]; exact hlt), cB_snoc, HK.out, HC.out.2])
      rcases (by omega : k = 1 ∨ k = 2 ∨ (k ≠ 1 ∧ k ≠ 2)) with hk1 | hk2 | ⟨hk1, hk2⟩
      · subst hk1
        go_wp2_with fail
        go_roundg (n - (i + 1))
        case rel => exact ⟨i + 1, x + 1, y, by go_num, rfl, by go_num, by omega, rfl, by omega, by omega, hid ⟨HA2.out, HB2.out⟩, hid (HB.out.alloc (by rw [← HG.out]; exact HB.out.size) _)⟩
        case measure => omega
      · subst hk2
        go_wp2_with fail
        go_roundg (n - (i + 1))
        case rel => exact ⟨i + 1, x, y + 1, rfl, by go_num, by go_num, by omega, rfl, by omega, by omega, hid ⟨HA2.out, HB2.out⟩, hid (HB.out.alloc (by rw [← HG.out]; exact HB.out.size) _)⟩
        case measure => omega
      · have hb1 : ((k : Int) != 1) = true := by simp; omega
        have hb2 : ((k : Int) != 2) = true := by simp; omega
        rw [if_neg hk2] at HA2
        rw [if_neg hk1] at HB2
        go_wp2_with fail
        go_roundg (n - (i + 1))
        case rel => exact ⟨i + 1, x + 1, y + 1, by go_num, by go_num, by go_num, by omega, rfl, by omega, by omega, hid ⟨HA2.out, HB2.out⟩, hid (HB.out.alloc (by rw [← HG.out]; exact HB.out.size) _)⟩
        case measure => omega
    · have hge : ¬ ((i : Int) < (n : Int)) := by omega
      have ei : i = n := by omega
      subst ei
      go_wp2_with fail
      go_ret2
      refine ⟨?_, by rw [HG.out]; exact HB.out⟩
      have ec := HC.out
      rw [show List.take i L = L from List.take_of_length_le (by rw [HN.out]; exact Nat.le_refl _), HRA.out, HRB.out] at ec
      rw [ec.1, ec.2]
      rfl
end Go.Proofs.YtmpjapcijjjlbaaGreatDoor
namespace Go.Proofs.YtmpjapcijjjlbaaGreatDoor
open Go.RowKit
set_option linter.unusedVariables false
set_option linter.unusedSimpArgs false
theorem pow_at : Tryz.prog.globalNamed "internal/strconv.uint64pow10" = some (Tryz.laysM171_ren.g 17) := by kernel_rfl
theorem Tab.below {w w' : World} (h : Tab w) (hb : Below w.heap.size w w') : Tab w' := by
  have hg := pow_at
  unfold Tab Lib.TabIs World.var? at h ⊢
  rw [hg] at h ⊢
  simp only [Option.bind_some] at h ⊢
  have hlt : Tryz.laysM171_ren.g 17 < w.heap.size := by
    rcases Nat.lt_or_ge (Tryz.laysM171_ren.g 17) w.heap.size with h' | h'
    · exact h'
    · rw [Array.getElem?_eq_none h'] at h; cases h
  rw [hb.block _ hlt]
  exact h
theorem suffix_iff (x : Str) : Lib.hasSuffix x [10] = decide (x.getLast? = some 10) := by
  unfold Lib.hasSuffix
  rcases List.eq_nil_or_concat x with rfl | ⟨l, a, rfl⟩
  · decide
  · rw [List.concat_eq_append, List.getLast?_append]
    simp only [List.getLast?_singleton, Option.some_or, Option.some.injEq]
    rw [List.isSuffixOf, List.reverse_append]
    simp [List.isPrefixOf, Bool.beq_eq_decide_eq, eq_comm]
theorem hasEnd_any (x : Str) (hx : x.length ≤ 10000000) (w : World) : Calls Tryz.prog 56 #[.string ⟨x.toArray⟩] w fun e w' => e = .returned (.bool (decide (x.getLast? = some 10))) ∧ w' = w := by
  have HJ : Hid (Calls Tryz.prog 74 #[.string ⟨x.toArray⟩, .string ⟨#[10]⟩] w fun e w' => e = .returned (.bool (decide (x.getLast? = some 10))) ∧ w' = w) := hid (by
    rw [← suffix_iff]
    exact Any.strings_HasSuffix Tryz.lays100 ⟨x.toArray⟩ ⟨#[10]⟩ w (by show x.toArray.size ≤ _; simp; omega))
  obtain ⟨X, HX⟩ : ∃ X, Hid ((⟨x.toArray⟩ : ByteArray) = X) := ⟨_, rfl⟩
  obtain ⟨r, HR⟩ : ∃ X, Hid (decide (x.getLast? = some 10) = X) := ⟨_, rfl⟩
  rw [HX.out, HR.out] at HJ
  rw [HX.out, HR.out]
  go_enter Tryz.func56, Tryz.ntmps56
  go_wp2_with fail
  refine HJ.out.mono ?_
  rintro e w' ⟨rfl, rfl⟩
  go_wp2
  go_ret
  exact ⟨rfl, rfl⟩
theorem dig_len : ∀ (n m : Nat), m < 10 ^ (n + 1) → (Lib.decDigits m).length ≤ n + 1
  | 0, m, h => by rw [Lib.decDigits, dif_pos (by simpa using h)]; simp
  | n + 1, m, h => by
    rw [Lib.decDigits]
    split
    · simp
    · have := dig_len n (m / 10) (by rw [Nat.pow_succ] at h; omega)
      simp
      omega
theorem place_any (a n : Nat) (ha : a ≤ 1000000000) (hn : n ≤ 1000000000) (w : World) (ht : Tab w) : Calls Tryz.prog 55 #[.int .i64 (a : Int), .int .i64 (n : Int)] w fun e w' => e = .returned (.string ⟨(plc a n).toArray⟩) ∧ Below w.heap.size w w' := by
  obtain ⟨m, HM⟩ : ∃ m, Hid (a + min n 1 = m) := ⟨_, rfl⟩
  have hm : m ≤ 1000000001 := by rw [← HM.out]; omega
  have C1 : Hid (Calls Tryz.prog 61 #[.int .i64 (a : Int), .int .i64 (n : Int)] w fun e w' => e = .returned (.int .i64 (m : Nat)) ∧ w' = w) := hid (by rw [← HM.out]; exact start_any a n (by omega) w)
  have C2 : Hid (Calls Tryz.prog 73 #[.int .i64 (m : Int)] w fun e w' => e = .returned (.string ⟨(Lib.decDigits m).toArray⟩) ∧ Below w.heap.size w w') := hid (itoa_any m (by omega) w ht)
  have C3 : Hid (∀ W, Below w.heap.size w W → Calls Tryz.prog 73 #[.int .i64 (n : Int)] W fun e w' => e = .returned (.string ⟨(Lib.decDigits n).toArray⟩) ∧ Below W.heap.size W w') := fun W hW => itoa_any n (by omega) W (ht.below hW)
  obtain ⟨X, HX⟩ : ∃ X, Hid ((⟨(Lib.decDigits m).toArray⟩ : ByteArray) = X) := ⟨_, rfl⟩
  obtain ⟨Y, HY⟩ : ∃ X, Hid ((⟨(Lib.decDigits n).toArray⟩ : ByteArray) = X) := ⟨_, rfl⟩
  obtain ⟨R, HR⟩ : ∃ X, Hid ((⟨(plc a n).toArray⟩ : ByteArray) = X) := ⟨_, rfl⟩
  have hX : X.size ≤ 11 := by rw [← HX.out]; simpa [ByteArray.size] using dig_len 10 m (by omega)
  have hY : Y.size ≤ 11 := by rw [← HY.out]; simpa [ByteArray.size] using dig_len 10 n (by omega)
  have hX1 : ¬ 9223372036854775807 < X.size + 1 := by omega
  have hX2 : ¬ 9223372036854775807 ≤ X.size := by omega
  have hX3 : ¬ 9223372036854775807 < X.size + 1 + Y.size := by omega
  have HE : Hid (X ++ ⟨#[44]⟩ ++ Y = R) := hid (by
    rw [← HR.out, ← HX.out, ← HY.out, show (⟨#[44]⟩ : ByteArray) = ⟨([44] : Str).toArray⟩ from rfl, str_add, str_add, plc, HM.out]
    simp)
  rw [HX.out] at C2
  rw [HY.out] at C3
  rw [HR.out]
  clear ht
  go_enter Tryz.func55, Tryz.ntmps55
  go_wp2_with fail
  refine C1.out.mono ?_
  rintro e w' ⟨rfl, rfl⟩
  go_wp2_with fail
  refine C2.out.mono ?_
  rintro e w1 ⟨rfl, hb1⟩
  have HB1 : Hid (Below w'.heap.size w' w1) := hb1
  have C3' := hid (C3.out w1 hb1)
  clear hb1
  go_wp2_with fail
  refine C3'.out.mono ?_
  rintro e w2 ⟨rfl, hb2⟩
  have HB2 : Hid (Below w'.heap.size w' w2) := hid (HB1.out.trans (hb2.mono HB1.out.size))
  clear hb2
  go_wp2
  go_ret
  exact ⟨(show _ = Ending.returned (.string (X ++ ⟨#[44]⟩ ++ Y)) from rfl).trans (by rw [HE.out]), HB2.out⟩
end Go.Proofs.YtmpjapcijjjlbaaGreatDoor
namespace Go.Proofs.YtmpjapcijjjlbaaGreatDoor
open Go.RowKit
set_option linter.unusedVariables false
set_option linter.unusedSimpArgs false
structure QW (g : Nat) (k : Int) (X : ByteArray) (W : World) : Prop where
  c0 : W.cell? ⟨g, 0, none⟩ = some (.int .i64 k)
  c1 : W.cell? ⟨g, 1, none⟩ = some (.string X)
set_option maxRecDepth 20000 in
set_option maxHeartbeats 1000000 in
theorem writeEdit_any (k : Nat) (x : Str) (hk : k ≤ 2) (hx : x.length ≤ 1000000) (w : World) : Calls Tryz.prog 32 #[.agg #[.int .i64 (k : Int), .string ⟨x.toArray⟩]] w fun e w' => e = .returned (.string ⟨(lineT (k, x)).toArray⟩) ∧ Below w.heap.size w w' := by
  have HC : Hid (∀ W, Calls Tryz.prog 56 #[.string ⟨x.toArray⟩] W fun e w' => e = .returned (.bool (decide (x.getLast? = some 10))) ∧ w' = W) := fun W => hasEnd_any x (by omega) W
  obtain ⟨X, HX⟩ : ∃ X, Hid ((⟨x.toArray⟩ : ByteArray) = X) := ⟨_, rfl⟩
  obtain ⟨r, HR⟩ : ∃ r, Hid (decide (x.getLast? = some 10) = r) := ⟨_, rfl⟩
  obtain ⟨R, HRR⟩ : ∃ X, Hid ((⟨(lineT (k, x)).toArray⟩ : ByteArray) = X) := ⟨_, rfl⟩
  obtain ⟨S, HS⟩ : ∃ X, Hid ((⟨[sgn k].toArray⟩ : ByteArray) = X) := ⟨_, rfl⟩
  have hX : X.size ≤ 1000000 := by rw [← HX.out]; simpa [ByteArray.size] using hx
  have hS : S.size = 1 := by rw [← HS.out]; rfl
  have hSX : (S ++ X).size = X.size + 1 := by rw [ByteArray.size_append, hS]; omega
  have h1 : ¬ 9223372036854775807 < S.size + X.size := by omega
  have h2 : ¬ 9223372036854775807 < (S ++ X).size + 29 := by omega
  rw [HX.out, HR.out] at HC
  have HE1 : Hid (r = true → S ++ X = R) := fun hr => by
    have : x.getLast? = some 10 := by rw [← HR.out] at hr; simpa using hr
    rw [← HRR.out, ← HS.out, ← HX.out, str_add, lineT, if_pos this]; simp
  have HE2 : Hid (r = false → S ++ X ++ ⟨#[10, 92, 32, 78, 111, 32, 110, 101, 119, 108, 105, 110, 101, 32, 97, 116, 32, 101, 110, 100, 32, 111, 102, 32, 102, 105, 108, 101, 10]⟩ = R) := fun hr => by
    have : ¬ x.getLast? = some 10 := by rw [← HR.out] at hr; simpa using hr
    rw [← HRR.out, ← HS.out, ← HX.out, show (⟨#[10, 92, 32, 78, 111, 32, 110, 101, 119, 108, 105, 110, 101, 32, 97, 116, 32, 101, 110, 100, 32, 111, 102, 32, 102, 105, 108, 101, 10]⟩ : ByteArray) = ⟨noE.toArray⟩ from rfl, str_add, str_add, lineT, if_neg this]; simp
  have HEX : Hid ((⟨#[32, 45, 43]⟩ : ByteArray).extract k (k + 1) = S) := hid (by
    rw [← HS.out]
    rcases (by omega : k = 0 ∨ k = 1 ∨ k = 2) with rfl | rfl | rfl <;> rfl)
  rw [HX.out, HRR.out]
  obtain ⟨w0, HW0⟩ : ∃ w0, Hid (w.alloc (.cells #[.int .i64 (k : Int), .string X] 43) = w0) := ⟨_, rfl⟩
  obtain ⟨g, HG⟩ : ∃ g, Hid (w.heap.size = g) := ⟨_, rfl⟩
  have HB0 : Hid (Below g w w0) := hid (by rw [← HW0.out, ← HG.out]; exact (Below.refl _ w).alloc (Nat.le_refl _) _)
  have hg0 : g < w0.heap.size := by rw [← HW0.out, ← HG.out]; simp
  have hc0 : w0.cell? ⟨g, 0, none⟩ = some (.int .i64 k) := by rw [← HW0.out, ← HG.out]; simp
  have hc1 : w0.cell? ⟨g, 1, none⟩ = some (.string X) := by rw [← HW0.out, ← HG.out]; simp
  go_enter Tryz.func32, Tryz.ntmps32
  rw [HG.out]
  go_wp2_with fail
  rw [HW0.out, HG.out]
  have HQ : Hid (QW g k X w0.drew) := hid ⟨hc0, hc1⟩
  have hk1 : IntKind.i64.wrap ((k : Int) + 1) = (k : Int) + 1 := by rw [IntKind.wrap_i64]; omega
  have hk2 : (0 ≤ (k : Int) + 1 ∧ (k : Int) + 1 ≤ 3) := by omega
  have hk3 : ((k : Int) + 1).toNat = k + 1 := by omega
  have hk4 : (k : Int) ≤ (k : Int) + 1 := by omega
  refine wp_region_held_drew (S := QW g k X) (by kernel_rfl) HQ.out (fun hHeld => ?_)
  refine takeL (i := 0) (v := ?_) rfl (by kernel_rfl) (by kernel_rfl) (by kernel_rfl) (fun _ _ _ h => h) (Or.inl ⟨by rfl, ?_⟩) hHeld ?_
  rotate_left
  · rintro w' ⟨s0, s1⟩; go_simp; rfl
  try simp only [Act.put, List.setIfInBounds_toArray, List.set_cons_zero, List.set_cons_succ]
  refine takeL (i := 1) (v := ?_) rfl (by kernel_rfl) (by kernel_rfl) (by kernel_rfl) (fun _ _ _ h => h) (Or.inl ⟨by rfl, ?_⟩) hHeld ?_
  rotate_left
  · rintro w' ⟨s0, s1⟩; go_simp; rfl
  try simp only [Act.put, List.setIfInBounds_toArray, List.set_cons_zero, List.set_cons_succ]
  refine takeL (i := 2) (v := ?_) rfl (by kernel_rfl) (by kernel_rfl) (by kernel_rfl) (fun _ _ _ h => h) (Or.inl ⟨by rfl, ?_⟩) hHeld ?_
  rotate_left
  · rintro w' ⟨s0, s1⟩; go_simp; rfl
  try simp only [Act.put, List.setIfInBounds_toArray, List.set_cons_zero, List.set_cons_succ]
  refine takeL (i := 3) (v := ?_) rfl (by kernel_rfl) (by kernel_rfl) (by kernel_rfl) (fun _ _ _ h => h) (Or.inl ⟨by rfl, ?_⟩) hHeld ?_
  rotate_left
  · rintro w' ⟨s0, s1⟩; go_simp; rfl
  try simp only [Act.put, List.setIfInBounds_toArray, List.set_cons_zero, List.set_cons_succ]
  refine takeL (i := 4) (v := .int .i64 ((k : Int) + 1)) rfl (by kernel_rfl) (by kernel_rfl) (by kernel_rfl) (fun _ _ _ h => h) (Or.inl ⟨by rfl, ?_⟩) hHeld ?_
  · rintro w' ⟨s0, s1⟩; go_simp; try rw [hk1]
  try simp only [Act.put, List.setIfInBounds_toArray, List.set_cons_zero, List.set_cons_succ]
  refine takeL (i := 5) (v := .string S) rfl (by kernel_rfl) (by kernel_rfl) (by kernel_rfl) (fun _ _ _ h => h) (Or.inl ⟨by rfl, ?_⟩) hHeld ?_
  · rintro w' ⟨s0, s1⟩; go_simp; try rw [HEX.out]
  try simp only [Act.put, List.setIfInBounds_toArray, List.set_cons_zero, List.set_cons_succ]
  refine takeL (i := 6) (v := ?_) rfl (by kernel_rfl) (by kernel_rfl) (by kernel_rfl) (fun _ _ _ h => h) (Or.inl ⟨by rfl, ?_⟩) hHeld ?_
  rotate_left
  · rintro w' ⟨s0, s1⟩; go_simp; rfl
  try simp only [Act.put, List.setIfInBounds_toArray, List.set_cons_zero, List.set_cons_succ]
  refine takeL (i := 7) (v := ?_) rfl (by kernel_rfl) (by kernel_rfl) (by kernel_rfl) (fun _ _ _ h => h) (Or.inl ⟨by rfl, ?_⟩) hHeld ?_
  rotate_left
  · rintro w' ⟨s0, s1⟩; go_simp; rfl
  try simp only [Act.put, List.setIfInBounds_toArray, List.set_cons_zero, List.set_cons_succ]
  refine takeL (i := 8) (v := .string (S ++ X)) rfl (by kernel_rfl) (by kernel_rfl) (by kernel_rfl) (fun _ _ _ h => h) (Or.inl ⟨by rfl, ?_⟩) hHeld ?_
  · rintro w' ⟨s0, s1⟩; go_simp; first | done | omega | (first | rfl | omega)
  try simp only [Act.put, List.setIfInBounds_toArray, List.set_cons_zero, List.set_cons_succ]
  refine takeL (i := 9) (v := ?_) rfl (by kernel_rfl) (by kernel_rfl) (by kernel_rfl) (fun _ _ _ h => h) (Or.inl ⟨by rfl, ?_⟩) hHeld ?_
  rotate_left
  · rintro w' ⟨s0, s1⟩; go_simp; rfl
  try simp only [Act.put, List.setIfInBounds_toArray, List.set_cons_zero, List.set_cons_succ]
  refine wpAnyH_done (by kernel_rfl) ?_ _
  clear hHeld
  go_wp2_with fail
  refine (HC.out _).mono ?_
  rintro e w' ⟨rfl, rfl⟩
  have HBD : Hid (Below g w w0.drew) := hid (HB0.out.trans ⟨rfl, rfl, rfl, Nat.le_refl _, fun _ _ => rfl⟩)
  cases hr : r
  · go_wp2
    go_ret
    exact ⟨(show _ = Ending.returned (.string (S ++ X ++ ⟨#[10, 92, 32, 78, 111, 32, 110, 101, 119, 108, 105, 110, 101, 32, 97, 116, 32, 101, 110, 100, 32, 111, 102, 32, 102, 105, 108, 101, 10]⟩)) from rfl).trans (by rw [HE2.out hr]), HBD.out⟩
  · go_wp2
    go_ret
    exact ⟨(show _ = Ending.returned (.string (S ++ X)) from rfl).trans (by rw [HE1.out hr]), HBD.out⟩
end Go.Proofs.YtmpjapcijjjlbaaGreatDoor
namespace Go.Proofs.YtmpjapcijjjlbaaGreatDoor
open Go.RowKit
set_option linter.unusedVariables false
set_option linter.unusedSimpArgs false
theorem cell_ltA {w : World} {a : Addr} {v : Value} (h : w.cell? a = some v) : a.block < w.heap.size := by
  rcases Nat.lt_or_ge a.block w.heap.size with h' | h'
  · exact h'
  · simp [World.cell?, Array.getElem?_eq_none h'] at h
theorem there_off {w : World} {g n : Nat} {cs : Array Value} {t : TypeId} (h : w.heap[g]? = some (.cells cs t (0, 0))) (o : Nat) (hn : o + n ≤ cs.size) : w.there g o n := fun j hj => by
  refine ⟨?_, frozen_of_row w g (o + j) _ _ h⟩
  rw [cell_of_row w g (o + j) _ _ _ h, Array.getElem?_eq_getElem (by omega)]
  rfl
structure Ers (w : World) : Prop where
  s : ∃ ev, w.cell? ⟨2, 0, none⟩ = some ev ∧ (ev = .nilIface ∨ ∃ te pe, ev = .iface te pe)
  r : ∃ ev, w.cell? ⟨3, 0, none⟩ = some ev ∧ (ev = .nilIface ∨ ∃ te pe, ev = .iface te pe)
theorem Ers.below {w w' : World} (h : Ers w) (hb : Below w.heap.size w w') : Ers w' := by
  obtain ⟨⟨e1, h1, k1⟩, ⟨e2, h2, k2⟩⟩ := h
  exact ⟨⟨e1, (hb.cell (p := ⟨2, 0, none⟩) (cell_ltA h1)).trans h1, k1⟩, ⟨e2, (hb.cell (p := ⟨3, 0, none⟩) (cell_ltA h2)).trans h2, k2⟩⟩
def Mx (w : World) : Prop := ∃ m, w.cell? ⟨1, 0, none⟩ = some (.int .i64 m)
theorem Mx.below {w w' : World} (h : Mx w) (hb : Below w.heap.size w w') : Mx w' := by
  obtain ⟨m, h⟩ := h
  exact ⟨m, (hb.cell (p := ⟨1, 0, none⟩) (cell_ltA h)).trans h⟩
theorem cutStr (s p : Str) (hs : s.length ≤ 1000000) (w : World) (hm : Mx w) : Calls Tryz.prog 76 #[.string ⟨s.toArray⟩, .string ⟨p.toArray⟩] w fun e w' => e = .returned (.tuple #[.string ⟨(Lib.cut s p).1.toArray⟩, .string ⟨(Lib.cut s p).2.1.toArray⟩, .bool (Lib.cut s p).2.2]) ∧ Below w.heap.size w w' := by
  obtain ⟨m, hm⟩ := hm
  refine (Any.strings_Cut Tryz.lays145 ⟨s.toArray⟩ ⟨p.toArray⟩ m w (by rw [txt_len]; omega) hm).mono ?_
  rintro e w' ⟨rfl, n, rfl⟩
  exact ⟨rfl, below_drewH (Below.refl _ _) n⟩
theorem cut_le1 (s sep : List UInt8) : (Lib.cut s sep).1.length ≤ s.length := by
  unfold Lib.cut
  split
  · simp only [List.length_take]; omega
  · simp
theorem parseU32 (s : Str) (hs : s.length ≤ 1000000) (w : World) (he : Ers w) : Calls Tryz.prog 78 #[.string ⟨s.toArray⟩, .int .i64 10, .int .i64 32] w fun e w' => (∃ ev, e = .returned (.tuple #[.int .u64 (puV s : Nat), ev])) ∧ Below w.heap.size w w' := by
  cases h : Lib.parseUintB 32 s with
  | ok v =>
    refine (Any.strconv_ParseUint_10_at32_ok Tryz.laysPu14 ⟨s.toArray⟩ (by rw [txt_len]; omega) v h w).mono ?_
    rintro e w' ⟨rfl, hw⟩
    refine ⟨⟨_, by unfold puV; rw [h]⟩, ?_⟩
    rcases hw with rfl | rfl
    · exact Below.refl _ _
    · exact ⟨rfl, rfl, rfl, by rw [Lib.bytesWorld_size]; omega, fun j hj => Lib.bytesWorld_at_old _ _ _ j hj⟩
  | «syntax» =>
    obtain ⟨ev, h1, h2⟩ := he.s
    refine (Any.strconv_ParseUint_10_at32_syntax Tryz.laysPu14 ⟨s.toArray⟩ (by rw [txt_len]; omega) h ev w h1 h2).mono ?_
    rintro e w' ⟨M, rfl, _, _, hb⟩
    exact ⟨⟨_, by unfold puV; rw [h]; rfl⟩, hb⟩
  | range =>
    obtain ⟨ev, h1, h2⟩ := he.r
    refine (Any.strconv_ParseUint_10_at32_range Tryz.laysPu14 ⟨s.toArray⟩ (by rw [txt_len]; omega) h ev w h1 h2).mono ?_
    rintro e w' ⟨M, rfl, _, _, hb⟩
    exact ⟨⟨_, by unfold puV; rw [h]; rfl⟩, hb⟩
theorem puV_le (s : Str) : puV s ≤ 4294967295 := by
  unfold puV
  split
  · rename_i u h
    exact Lib.parseUintB_le h
  · omega
  · omega
theorem trP_len (x p : Str) : (Lib.trimPrefix x p).length ≤ x.length := by
  unfold Lib.trimPrefix
  split
  · rw [List.length_drop]; omega
  · exact Nat.le_refl _
set_option maxRecDepth 20000 in
theorem readStart_any (x : Str) (hx : x.length ≤ 1000000) (w : World) (he : Ers w) (hm : Mx w) : Calls Tryz.prog 58 #[.string ⟨x.toArray⟩] w fun e w' => e = .returned (.int .i64 (rdA x : Nat)) ∧ Below w.heap.size w w' := by
  obtain ⟨X, HX⟩ : ∃ X : ByteArray, Hid (⟨x.toArray⟩ = X) := ⟨_, hid rfl⟩
  obtain ⟨T, HT⟩ : ∃ X : ByteArray, Hid (⟨(Lib.trimPrefix x hdS).toArray⟩ = X) := ⟨_, hid rfl⟩
  obtain ⟨d, HD⟩ : ∃ d, Hid ((Lib.cut (Lib.trimPrefix x hdS) [44]).1 = d) := ⟨_, rfl⟩
  obtain ⟨D, HDD⟩ : ∃ X : ByteArray, Hid (⟨d.toArray⟩ = X) := ⟨_, hid rfl⟩
  obtain ⟨R, HR⟩ : ∃ X : ByteArray, Hid (⟨(Lib.cut (Lib.trimPrefix x hdS) [44]).2.1.toArray⟩ = X) := ⟨_, hid rfl⟩
  obtain ⟨b, HBB⟩ : ∃ b, Hid ((Lib.cut (Lib.trimPrefix x hdS) [44]).2.2 = b) := ⟨_, rfl⟩
  obtain ⟨v, HV⟩ : ∃ v, Hid (puV d = v) := ⟨_, rfl⟩
  have hv : v ≤ 4294967295 := by rw [← HV.out]; exact puV_le d
  have hwr : IntKind.i64.wrap (v : Int) = (v : Int) := by rw [IntKind.wrap_i64]; omega
  have htl := trP_len x hdS
  have hdl : d.length ≤ 1000000 := by rw [← HD.out]; have := cut_le1 (Lib.trimPrefix x hdS) [44]; omega
  have C77 : Hid (Calls Tryz.prog 77 #[.string X, .string ⟨#[64, 64, 32, 45]⟩] w fun e w' => e = .returned (.string T) ∧ w' = w) := hid (by
    rw [← HX.out, ← HT.out]
    exact Any.strings_TrimPrefix Tryz.lays101 ⟨x.toArray⟩ ⟨#[64, 64, 32, 45]⟩ w)
  have C76 : Hid (Calls Tryz.prog 76 #[.string T, .string ⟨#[44]⟩] w fun e w' => e = .returned (.tuple #[.string D, .string R, .bool b]) ∧ Below w.heap.size w w') := hid (by
    have := cutStr (Lib.trimPrefix x hdS) [44] (by omega) w hm
    rw [HD.out, HT.out, HDD.out, HR.out, HBB.out] at this
    exact this)
  have C78 : Hid (∀ W, Below w.heap.size w W → Calls Tryz.prog 78 #[.string D, .int .i64 10, .int .i64 32] W fun e w' => (∃ ev, e = .returned (.tuple #[.int .u64 (v : Nat), ev])) ∧ Below W.heap.size W w') := hid (fun W hW => by
    rw [← HV.out, ← HDD.out]
    exact parseU32 d hdl W (he.below hW))
  have HF : Hid (rdA x = v) := hid (by unfold rdA; rw [HD.out]; exact HV.out)
  rw [HF.out, HX.out]
  clear hx he hm htl hdl
  go_enter Tryz.func58, Tryz.ntmps58
  go_wp2_with fail
  refine C77.out.mono ?_
  rintro e w1 ⟨rfl, rfl⟩
  go_wp2_with fail
  refine C76.out.mono ?_
  rintro e w2 ⟨rfl, hb2⟩
  have HB2 := hid hb2
  clear hb2
  go_wp2_with fail
  refine (C78.out w2 HB2.out).mono ?_
  rintro e w3 ⟨⟨ev, rfl⟩, hb3⟩
  have HB3 : Hid (Below w1.heap.size w1 w3) := hid (HB2.out.trans (hb3.mono HB2.out.size))
  clear hb3
  go_wp2
  go_ret
  exact ⟨rfl, HB3.out⟩
theorem idx_kd (c : UInt8) : max (Lib.indexByte [32, 45, 43] c) 0 = (kdO c : Int) := by
  unfold kdO
  simp only [Lib.indexByte]
  by_cases h1 : c = 32
  · subst h1; decide
  · by_cases h2 : c = 45
    · subst h2; decide
    · by_cases h3 : c = 43
      · subst h3; decide
      · have e1 : ¬ (32 : UInt8) = c := fun e => h1 e.symm
        have e2 : ¬ (45 : UInt8) = c := fun e => h2 e.symm
        have e3 : ¬ (43 : UInt8) = c := fun e => h3 e.symm
        simp [h1, h2, h3, e1, e2, e3]
        rfl
theorem kdO_le (c : UInt8) : kdO c ≤ 2 := by
  unfold kdO
  split
  · omega
  · split <;> omega
theorem Tryz.results60 : Tryz.f60.results = #[.cell 2 43] := by kernel_rfl
theorem und43 : ∃ d, Tryz.prog.underlying 43 = some d ∧ d.isRow = true := ⟨_, Tryz.underlying43, rfl⟩
theorem size43 : (Tryz.prog.info? 43).map (·.size) = some 2 := by kernel_rfl
set_option maxRecDepth 20000 in
theorem readEdit_any (x : Str) (h0 : x ≠ []) (hx : x.length ≤ 1000000) (w : World) : Calls Tryz.prog 60 #[.string ⟨x.toArray⟩] w fun e w' => e = .returned (.agg (encE (rdE x)).toArray) ∧ Below w.heap.size w w' := by
  obtain ⟨c, r, rfl⟩ : ∃ c r, x = c :: r := by
    cases x with
    | nil => exact absurd rfl h0
    | cons c r => exact ⟨c, r, rfl⟩
  obtain ⟨X, HX⟩ : ∃ X : ByteArray, Hid (⟨(c :: r).toArray⟩ = X) := ⟨_, hid rfl⟩
  obtain ⟨R, HR⟩ : ∃ X : ByteArray, Hid (⟨r.toArray⟩ = X) := ⟨_, hid rfl⟩
  obtain ⟨q, HQ⟩ : ∃ q, Hid (X.size = q) := ⟨_, rfl⟩
  have hq1 : q = r.length + 1 := by rw [← HQ.out, ← HX.out, txt_len]; rfl
  have hq : 1 ≤ q ∧ q ≤ 1000000 := by simp at hx; omega
  have hs1 : ∀ W : World, (Instr.slice 9 (.string X) none (some (.int .i64 1)) none).run Tryz.prog W = .ok (.string ⟨#[c]⟩) W := fun W => by
    have := slc_to (c :: r) 1 1 rfl (by simp) W
    rw [← HX.out]
    exact this
  have hs2 : ∀ W : World, (Instr.slice 9 (.string X) (some (.int .i64 1)) none none).run Tryz.prog W = .ok (.string R) W := fun W => by
    have := slc_from (c :: r) 1 1 rfl (by simp) W
    rw [← HX.out, ← HR.out]
    exact this
  obtain ⟨ix, HI⟩ : ∃ i, Hid (Lib.indexByte [32, 45, 43] c = i) := ⟨_, rfl⟩
  obtain ⟨k, HK⟩ : ∃ k, Hid (kdO c = k) := ⟨_, rfl⟩
  have hmx : max ix 0 = (k : Int) := by rw [← HI.out, ← HK.out]; exact idx_kd c
  have C80 : Hid (∀ W : World, Calls Tryz.prog 80 #[.string ⟨#[32, 45, 43]⟩, .string ⟨#[c]⟩] W fun e w' => e = .returned (.int .i64 ix) ∧ w' = W) := hid (fun W => by
    rw [← HI.out]
    exact Any.strings_Index_one Tryz.lays143 ⟨#[32, 45, 43]⟩ c W)
  obtain ⟨G, HG⟩ : ∃ n, Hid (w.heap.size = n) := ⟨_, rfl⟩
  obtain ⟨w1, HW1⟩ : ∃ u, Hid (w.alloc (.cells #[.int .i64 0, .string ⟨#[]⟩] 43) = u) := ⟨_, rfl⟩
  have HB1 : Hid (Below G w w1) := hid (by rw [← HW1.out, ← HG.out]; exact (Below.refl _ w).alloc (Nat.le_refl _) _)
  have hh1 : w1.heap[G]? = some (.cells #[.int .i64 0, .string ⟨#[]⟩] 43 (0, 0)) := by rw [← HW1.out, ← HG.out]; exact World.alloc_heap_new w _
  have ht1 : w1.there G 0 (#[.int .i64 (k : Int), .string R] : Array Value).size := there_off hh1 0 (by simp)
  obtain ⟨w2, HW2⟩ : ∃ u, Hid (w1.setCells G 0 (#[.int .i64 (k : Int), .string R] : Array Value).toList = u) := ⟨_, rfl⟩
  have R2 : Hid (w2.rangeAt G 0 [.int .i64 (k : Int), .string R]) := hid (by rw [← HW2.out]; exact World.rangeAt_setCells_same _ _ 0 _ (by simpa using ht1))
  have HB2 : Hid (Below G w w2) := hid (by rw [← HW2.out]; exact below_setCells (Nat.le_refl _) _ _ _ _ HB1.out)
  have T1 := hid ht1
  have T2 : Hid ((Tryz.prog.info? 43).map (·.size) = some (#[.int .i64 (k : Int), .string R] : Array Value).size) := hid size43
  have T3 : Hid ((#[.int .i64 (k : Int), .string R] : Array Value).all (·.oneCell') = true) := hid (by simp [Value.oneCell'])
  obtain ⟨d, hd1, hd2⟩ := und43
  have HD1 := hid hd1
  have HD2 := hid hd2
  have HF : Hid (encE (rdE (c :: r)) = [.int .i64 (k : Int), .string R]) := hid (by
    unfold encE rdE
    simp only [List.headD_cons, List.drop_succ_cons, List.drop_zero]
    rw [HK.out]
    unfold sV
    rw [HR.out])
  have al1 : w.alloc (.cells #[.int .i64 0, .string ⟨#[]⟩] 43) = w1 := HW1.out
  have hs0 : w.heap.size = G := HG.out
  rw [HF.out, HX.out, HG.out]
  clear hx h0 hh1 ht1 hd1 hd2 hq1
  go_enter Tryz.func60, Tryz.ntmps60
  go_wp2_with fail
  refine (C80.out _).mono ?_
  rintro e w5 ⟨rfl, rfl⟩
  go_wp2_with (first
    | (refine wpList_store_mid rfl 43 _ _ rfl G 0 #[.int .i64 (k : Int), .string R] rfl rfl T1.out T2.out T3.out ?_; rw [HW2.out])
    | fail)
  refine bodyPost_ret (results_mid Tryz.results60 _ _ G [.int .i64 (k : Int), .string R] _ rfl R2.out HD1.out HD2.out size43) rfl ?_
  exact ⟨rfl, HB2.out⟩
end Go.Proofs.YtmpjapcijjjlbaaGreatDoor
namespace Go.Proofs.YtmpjapcijjjlbaaGreatDoor
open Go.RowKit
set_option linter.unusedVariables false
set_option linter.unusedSimpArgs false
theorem Tryz.info73 : (Tryz.prog.info? 73).map (fun i => (i.zero, i.size, i.bytes)) = some (some (.agg #[.int .i64 0, .int .i64 0, .slice none 0 0]), 3, 40) := by kernel_rfl
theorem und27 : Tryz.prog.underlying 45 = some (.slice 73) := by kernel_rfl
theorem run_build27 (x y : Nat) (p : Option Addr) (n c : Nat) (w : World) : (Instr.buildSlice 45 1 #[(0, .agg #[.int .i64 (x : Int), .int .i64 (y : Int), .slice p n c])]).run Tryz.prog w = .ok (.slice (some ⟨w.heap.size, 0, none⟩) 1 1) (w.alloc (.cells #[.int .i64 (x : Int), .int .i64 (y : Int), .slice p n c] 73)) := by
  obtain ⟨i, hq, hz, hs, _⟩ := info_parts Tryz.info73
  refine run_buildSlice w 45 73 1 _ #[.int .i64 (x : Int), .int .i64 (y : Int), .slice p n c] i _ Tryz.underlying45 hq hz (by rw [hs]; decide) (by rw [hs]; decide) ?_
  rw [hs]
  kernel_rfl
end Go.Proofs.YtmpjapcijjjlbaaGreatDoor
namespace Go.Proofs.YtmpjapcijjjlbaaGreatDoor
open Go.RowKit
set_option linter.unusedVariables false
set_option linter.unusedSimpArgs false
abbrev Gh := Int × Int × Option Addr × Nat × List Ed
def g0 : Gh := (0, 0, none, 0, [])
def slE (x : Gh) : Value := .slice x.2.2.1 x.2.2.2.2.length x.2.2.2.1
def encG (x : Gh) : List Value := [.int .i64 x.1, .int .i64 x.2.1, slE x]
abbrev PG (w : World) (b : Option Addr) (cap : Nat) (l : List Gh) : Prop := Px encG 3 g0 w b cap l
abbrev BG (w0 w : World) (B : Nat) (v : Value) (l : List Gh) : Prop := Bx encG 3 73 w0 w B v l
theorem encG_len (x : Gh) : (encG x).length = 3 := rfl
theorem encG_one (x : Gh) : ∀ v ∈ encG x, v.oneCell' = true := fun v hv => by
  simp only [encG, slE, List.mem_cons, List.not_mem_nil, or_false] at hv
  rcases hv with rfl | rfl | rfl <;> rfl
def OwE (w : World) (B : Nat) (x : Gh) : Prop := w.ownsRow B 43 2 (slE x) x.2.2.2.2.length (x.2.2.2.2.flatMap encE)
theorem own_kept {w w' : World} {row : Option Nat} {B e k n : Nat} {v : Value} {xs : List Value} (h : w.ownsRow B e k v n xs) (hg : w.grownBy w' row) (hne : ∀ j, v.ownBlock = some j → row ≠ some j) : w'.ownsRow B e k v n xs := by
  refine h.kept hg ?_
  cases hv : v.ownBlock with
  | none => exact .inl rfl
  | some j =>
    right
    intro e
    exact hne j hv e.symm
theorem own_below {w w' : World} {B e k n : Nat} {v : Value} {xs : List Value} (h : w.ownsRow B e k v n xs) (hb : Below w.heap.size w w') : w'.ownsRow B e k v n xs := own_kept h (grown_of_below hb none) (fun j _ e => by cases e)
theorem own_type {w : World} {B e k n : Nat} {v : Value} {xs : List Value} (h : w.ownsRow B e k v n xs) (j : Nat) (hj : v.ownBlock = some j) : ∃ cur, w.heap[j]? = some (.cells cur e (0, 0)) := by
  obtain ⟨_, ⟨rfl, _⟩ | ⟨g, cap, cur, rfl, _, h1, _⟩⟩ := h
  · cases hj
  · cases hj
    exact ⟨cur, h1⟩
theorem own_other {w w' : World} {row : Option Nat} {B e k n : Nat} {v : Value} {xs : List Value} {B' e' k' n' : Nat} {v' : Value} {xs' : List Value} (h : w.ownsRow B e k v n xs) (h' : w.ownsRow B' e' k' v' n' xs') (he : e ≠ e') (hg : w.grownBy w' row) (hr : row = v'.ownBlock) : w'.ownsRow B e k v n xs :=
  own_kept h hg (fun j hj e1 => by
    rw [hr] at e1
    obtain ⟨c1, h1⟩ := own_type h j hj
    obtain ⟨c2, h2⟩ := own_type h' j e1
    rw [h1] at h2
    cases h2
    exact he rfl)
theorem own_st {w : World} {B e s g n cap : Nat} {xs : List Value} (h : w.ownsRow B e s (.slice (some ⟨g, 0, none⟩) n cap) n xs) (j : Nat) (hj : j < xs.length) (x : Value) (hx : x.oneCell' = true) :
    w.cell? ⟨g, j, none⟩ = xs[j]? ∧ w.frozen? ⟨g, j, none⟩ = false ∧ (store ⟨g, j, none⟩ x).run Tryz.prog w = .ok () (w.setCell ⟨g, j, none⟩ x) := by
  obtain ⟨h0, ⟨h1, _⟩ | ⟨g', cap', cur, h1, _, h2, h3, _, h4, h5⟩⟩ := h
  · cases h1
  · cases h1
    have hc : w.cell? ⟨g, j, none⟩ = xs[j]? := by
      rw [cell_of_row _ _ _ _ _ _ h2, ← h5, List.getElem?_take_of_lt (by omega)]
      simp
    have hf : w.frozen? ⟨g, j, none⟩ = false := by simp [World.frozen?, h2]
    refine ⟨hc, hf, ?_⟩
    rw [run_store _ _ _ _ _ hx, hc, List.getElem?_eq_getElem hj]
    simp [hf]
theorem set_fl {α : Type} (enc : α → List Value) (k : Nat) (d : α) : ∀ (l : List α) (i j : Nat) (x : α) (v : Value), i < l.length → j < k → (∀ y ∈ l, (enc y).length = k) → enc x = (enc (l.getD i d)).set j v → (l.flatMap enc).set (i * k + j) v = (l.set i x).flatMap enc
  | [], i, j, x, v, h, _, _, _ => by simp at h
  | y :: l, 0, j, x, v, h, hj, hw, hx => by
    have hy := hw y (by simp)
    simp only [List.getD_cons_zero] at hx
    rw [Nat.zero_mul, Nat.zero_add, List.flatMap_cons, List.set_cons_zero, List.flatMap_cons, List.set_append_left _ _ (by omega), hx]
  | y :: l, i + 1, j, x, v, h, hj, hw, hx => by
    have hy := hw y (by simp)
    have ih := set_fl enc k d l i j x v (by simpa using h) hj (fun z hz => hw z (by simp [hz])) (by simpa using hx)
    rw [List.flatMap_cons, List.set_cons_succ, List.flatMap_cons, List.set_append_right _ _ (by rw [hy, Nat.add_mul]; omega), hy, show (i + 1) * k + j - k = i * k + j by rw [Nat.add_mul]; omega, ih]
theorem own_set1 {w : World} {B e s g n cap : Nat} {xs : List Value} (h : w.ownsRow B e s (.slice (some ⟨g, 0, none⟩) n cap) n xs) (o : Nat) (v : Value) : (w.setCell ⟨g, o, none⟩ v).ownsRow B e s (.slice (some ⟨g, 0, none⟩) n cap) n (xs.set o v) ∧ w.grownBy (w.setCell ⟨g, o, none⟩ v) (some g) :=
  owns_set [v] o w xs h
structure Sh (w0 wr : World) (G N0 : Nat) (v : Value) (l : List Gh) (x : Gh) : Prop where
  row : BG w0 wr G v (l ++ [x])
  pe : ∀ y ∈ l, OwE wr G y ∧ ∀ j, (slE y).ownBlock = some j → j < N0
  la : OwE wr N0 x
  gn : G ≤ N0
  le : N0 ≤ wr.heap.size
theorem Sh.below {w0 wr w' : World} {G N0 : Nat} {v : Value} {l : List Gh} {x : Gh} (h : Sh w0 wr G N0 v l x) (hb : Below wr.heap.size wr w') : Sh w0 w' G N0 v l x :=
  ⟨⟨h.row.below.trans (hb.mono h.row.le), own_below h.row.own hb, Nat.le_trans h.row.le hb.size⟩, fun y hy => ⟨own_below (h.pe y hy).1 hb, (h.pe y hy).2⟩, own_below h.la hb, h.gn, Nat.le_trans h.le hb.size⟩
theorem own_nil (w : World) (B : Nat) (a b : Int) : OwE w B (a, b, none, 0, []) := ⟨rfl, .inl ⟨rfl, rfl⟩⟩
theorem Sh.first {w0 w' : World} {G : Nat} {v' : Value} {a b : Int} (hb : BG w0 w' G v' [(a, b, none, 0, [])]) : Sh w0 w' G w'.heap.size v' [] (a, b, none, 0, []) :=
  ⟨hb, (fun y hy => by cases hy), own_nil _ _ _ _, hb.le, Nat.le_refl _⟩
theorem Sh.push {w0 wr w' : World} {G N0 : Nat} {v v' : Value} {l : List Gh} {x : Gh} {a b : Int} (h : Sh w0 wr G N0 v l x) (hb : BG w0 w' G v' ((l ++ [x]) ++ [(a, b, none, 0, [])])) (hg : wr.grownBy w' v.ownBlock) : Sh w0 w' G w'.heap.size v' (l ++ [x]) (a, b, none, 0, []) := by
  refine ⟨hb, fun y hy => ?_, own_nil _ _ _ _, hb.le, Nat.le_refl _⟩
  have hs := hg.size
  have hl := h.le
  rcases List.mem_append.1 hy with hy | hy
  · obtain ⟨h1, h2⟩ := h.pe y hy
    exact ⟨own_other h1 h.row.own (by decide) hg rfl, fun j hj => by have := h2 j hj; omega⟩
  · rw [List.mem_singleton.1 hy]
    exact ⟨base_mono (own_other h.la h.row.own (by decide) hg rfl) h.gn, fun j hj => by have := (own_lt h.la j hj).2; omega⟩
theorem Sh.edit {w0 u u9 : World} {G N0 hb m cap : Nat} {l : List Gh} {a b : Int} {ea ea' : Option Addr} {ec ec' : Nat} {es es' : List Ed} (h : Sh w0 u G N0 (.slice (some ⟨hb, 0, none⟩) m cap) l (a, b, ea, ec, es)) (hm : l.length + 1 = m) (hg : u.grownBy u9 (slE (a, b, ea, ec, es)).ownBlock) (ho : OwE u9 N0 (a, b, ea', ec', es')) :
    Sh w0 (u9.setCell ⟨hb, l.length * 3 + 2, none⟩ (.slice ea' es'.length ec')) G N0 (.slice (some ⟨hb, 0, none⟩) m cap) l (a, b, ea', ec', es') ∧ u9.ownsRow G 73 3 (.slice (some ⟨hb, 0, none⟩) m cap) m ((l ++ [(a, b, ea, ec, es)]).flatMap encG) := by
  have hlen : (l ++ [(a, b, ea, ec, es)]).length = m := by simp; omega
  have hr := h.row.own
  rw [hlen] at hr
  have hr9 := own_other hr h.la (by decide) hg rfl
  obtain ⟨k1, k2⟩ := own_set1 hr9 (l.length * 3 + 2) (.slice ea' es'.length ec')
  have e1 : ((l ++ [(a, b, ea, ec, es)]).flatMap encG).set (l.length * 3 + 2) (.slice ea' es'.length ec') = (l ++ [(a, b, ea', ec', es')]).flatMap encG := by
    have := set_fl encG 3 g0 (l ++ [(a, b, ea, ec, es)]) l.length 2 (a, b, ea', ec', es') (.slice ea' es'.length ec') (by simp) (by omega) (fun y _ => encG_len y) (by simp [encG, slE])
    rw [this]
    simp
  rw [e1] at k1
  have hlen2 : (l ++ [(a, b, ea', ec', es')]).length = m := by simp; omega
  have hB := (own_lt hr hb rfl).1
  have s1 := hg.size
  have s2 := k2.size
  have hle := h.row.le
  refine ⟨⟨⟨(h.row.below.grown hg hle (fun k e => by have := (own_lt h.la k e).1; have := h.gn; omega)).grown k2 (by omega) (fun k e => by cases e; exact hB), by rw [hlen2]; exact k1, by omega⟩, fun y hy => ?_, own_other ho hr9 (by decide) k2 rfl, h.gn, by have := h.le; omega⟩, hr9⟩
  obtain ⟨h1, h2⟩ := h.pe y hy
  have h3 : OwE u9 G y := own_kept h1 hg (fun j hj e => by have := h2 j hj; have := (own_lt h.la j e).1; omega)
  exact ⟨own_other h3 hr9 (by decide) k2 rfl, h2⟩
theorem Sh.trim {w0 u : World} {G N0 eb n cap : Nat} {v : Value} {l : List Gh} {a b : Int} {ec : Nat} {es : List Ed} {k : Nat} {s t : Str} (h : Sh w0 u G N0 v l (a, b, some ⟨eb, 0, none⟩, ec, es ++ [(k, s)])) :
    Sh w0 (u.setCell ⟨eb, es.length * 2 + 1, none⟩ (sV t)) G N0 v l (a, b, some ⟨eb, 0, none⟩, ec, es ++ [(k, t)]) := by
  have hla := h.la
  have e0 : slE (a, b, some ⟨eb, 0, none⟩, ec, es ++ [(k, s)]) = .slice (some ⟨eb, 0, none⟩) (es ++ [(k, s)]).length ec := rfl
  unfold OwE at hla
  rw [e0] at hla
  obtain ⟨k1, k2⟩ := own_set1 hla (es.length * 2 + 1) (sV t)
  have e1 : ((es ++ [(k, s)]).flatMap encE).set (es.length * 2 + 1) (sV t) = (es ++ [(k, t)]).flatMap encE := by
    have := set_fl encE 2 (0, []) (es ++ [(k, s)]) es.length 1 (k, t) (sV t) (by simp) (by omega) (fun y _ => encE_len y) (by simp [encE])
    rw [this]
    simp
  rw [e1] at k1
  have hB := (own_lt hla eb rfl).1
  have s2 := k2.size
  have hle := h.row.le
  have hgn := h.gn
  have hlen : (es ++ [(k, s)]).length = (es ++ [(k, t)]).length := by simp
  have e2 : (l ++ [((a, b, some ⟨eb, 0, none⟩, ec, es ++ [(k, s)]) : Gh)]).flatMap encG = (l ++ [((a, b, some ⟨eb, 0, none⟩, ec, es ++ [(k, t)]) : Gh)]).flatMap encG := by
    rw [List.flatMap_append, List.flatMap_append]
    simp [encG, slE]
  have hrow : u.ownsRow G 73 3 v (l ++ [((a, b, some ⟨eb, 0, none⟩, ec, es ++ [(k, t)]) : Gh)]).length ((l ++ [((a, b, some ⟨eb, 0, none⟩, ec, es ++ [(k, t)]) : Gh)]).flatMap encG) := by
    have := h.row.own
    rw [e2] at this
    simpa using this
  refine ⟨⟨h.row.below.grown k2 hle (fun j e => by cases e; omega), own_other hrow hla (by decide) k2 rfl, by omega⟩, fun y hy => ?_, ?_, hgn, by have := h.le; omega⟩
  · obtain ⟨h1, h2⟩ := h.pe y hy
    exact ⟨own_kept h1 k2 (fun j hj e => by cases e; have := h2 _ hj; omega), h2⟩
  · unfold OwE
    show World.ownsRow _ N0 43 2 (.slice (some ⟨eb, 0, none⟩) (es ++ [(k, t)]).length ec) _ _
    rw [← hlen]
    exact k1
end Go.Proofs.YtmpjapcijjjlbaaGreatDoor
