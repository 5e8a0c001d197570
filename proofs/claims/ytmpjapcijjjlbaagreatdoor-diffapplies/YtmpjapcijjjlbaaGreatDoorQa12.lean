import Derived.Test.YtmpjapcijjjlbaaGreatDoorQa11
namespace Go.Proofs.YtmpjapcijjjlbaaGreatDoor
open Go.RowKit
set_option linter.unusedVariables false
set_option linter.unusedSimpArgs false
theorem wrd_short (s x : Str) : (wrd s x).1.length ≤ s.length := by
  unfold wrd
  split
  · simp
  · exact Nat.le_refl _
theorem nbr_short (s : Str) : (nbr s).2.1.length ≤ s.length ∧ (nbr s).1 < 10 ^ 10 := by
  refine ⟨by unfold nbr; simp, ?_⟩
  have h := dgv_le _ (dgv_digits s)
  have h1 := (dgn_le 10 s).1
  unfold nbr
  exact Nat.lt_of_lt_of_le h (Nat.pow_le_pow_right (by omega) (by rw [List.length_take]; omega))
def gv : Bool → Value → Value
  | true, v => v
  | false, _ => undef
theorem gv_t (v : Value) : gv true v = v := rfl
theorem gv_f (v : Value) : gv false v = undef := rfl
theorem run_b59 (a b c d : Int) (w : World) : (Instr.build 59 #[(0, .int .i64 a), (1, .int .i64 b), (2, .int .i64 c), (3, .int .i64 d)]).run Tryz.prog w = .ok (.agg #[.int .i64 a, .int .i64 b, .int .i64 c, .int .i64 d, .slice none 0 0]) w := by kernel_rfl
theorem size59 : (Tryz.prog.info? 59).map (·.size) = some 5 := by kernel_rfl
theorem step_store {P : Program} {ops : Array Oper} {o : Oper} {a : Act} {w : World} {K : Act → World → Prop} {Q : Exit → Act → World → Prop} {E : Prop} (hg : o.guard = none) (ty : TypeId) (x y : Operand) (ho : o.op = .store ty x y) (b of : Nat) (cells : Array Value) (hx : a.eval x = .pointer (some ⟨b, of, none⟩)) (hy : a.eval y = .agg cells)
    (ht : w.there b of cells.size) (hi : (P.info? ty).map (·.size) = some cells.size) (h1 : cells.all (·.oneCell') = true) (h : K (a.put o.dst undef) (w.setCells b of cells.toList)) :
    if Region.wanted o (yielded ops a.tmps) = true then Oper.wp P o a w K Q else E := by
  have hw : Region.wanted o (yielded ops a.tmps) = true := by simp [Region.wanted, hg]
  rw [if_pos hw]
  exact wp_store_mid ty x y ho b of cells hx hy ht hi h1 h
theorem Tryz.results46 : Tryz.f46.results = #[.cell 2 59, .tmp 3, .tmp 4] := by kernel_rfl
theorem results_c3 {P : Program} {fn : Func} {p q r : Tmp} {ty : TypeId} (h : fn.results = #[.cell p ty, .tmp q, .tmp r]) (tmps : Array Value) (w : World) (g : Nat) (cs : List Value) (d : TypeDesc)
    (hp : tmps.getD p undef = .pointer (some ⟨g, 0, none⟩)) (hc : w.rangeAt g 0 cs) (hu : P.underlying ty = some d) (hd : d.isRow = true) (hi : (P.info? ty).map (·.size) = some cs.length) :
    (results fn tmps).run P w = .ok (.tuple #[.agg cs.toArray, tmps.getD q undef, tmps.getD r undef]) w := by
  have hp' : tmps[p]?.getD undef = .pointer (some ⟨g, 0, none⟩) := by simpa using hp
  simp [results, h, hp', asAddr, run_loadVar_mid w g 0 ty cs d hc hu hd hi]
structure BW (K G : Nat) (x y z u : Value) (W : World) : Prop where
  r : W.rangeAt K 0 [x, y, z, u, .slice none 0 0]
  t : W.there G 0 5
  k : W.there K 0 5
theorem BW.c0 {K G : Nat} {x y z u : Value} {W : World} (h : BW K G x y z u W) : W.cell? ⟨K, 0, none⟩ = some x := by simpa using h.r 0 x rfl
theorem BW.c2 {K G : Nat} {x y z u : Value} {W : World} (h : BW K G x y z u W) : W.cell? ⟨K, 2, none⟩ = some z := by simpa using h.r 2 z rfl
theorem BW.f0 {K G : Nat} {x y z u : Value} {W : World} (h : BW K G x y z u W) : W.frozen? ⟨K, 0, none⟩ = false := by simpa using (h.k 0 (by omega)).2
theorem BW.f2 {K G : Nat} {x y z u : Value} {W : World} (h : BW K G x y z u W) : W.frozen? ⟨K, 2, none⟩ = false := by simpa using (h.k 2 (by omega)).2
theorem BW.set0 {K G : Nat} {x y z u : Value} {W : World} (h : BW K G x y z u W) (v : Value) : BW K G v y z u (W.setCell ⟨K, 0, none⟩ v) :=
  ⟨fun j q hq => by
    cases j with
    | zero => cases hq; exact World.cell?_setCell_same _ _ _ h.c0
    | succ j => rw [World.cell?_setCell_other _ _ _ _ (by simp)]; exact h.r (j + 1) q hq, World.there_setCells h.t K 0 [v], World.there_setCells h.k K 0 [v]⟩
theorem BW.set2 {K G : Nat} {x y z u : Value} {W : World} (h : BW K G x y z u W) (v : Value) : BW K G x y v u (W.setCell ⟨K, 2, none⟩ v) :=
  ⟨fun j q hq => by
    by_cases e : j = 2
    · subst e; cases hq; exact World.cell?_setCell_same _ _ _ h.c2
    · rw [World.cell?_setCell_other _ _ _ _ (by first | (simp; omega) | simp_all | simp)]
      refine h.r j q ?_
      match j, e, hq with
      | 0, _, hq => exact hq
      | 1, _, hq => exact hq
      | 2, e, _ => exact absurd rfl e
      | j + 3, _, hq => exact hq, World.there_setCells h.t K 2 [v], World.there_setCells h.k K 2 [v]⟩
set_option maxRecDepth 20000 in
set_option maxHeartbeats 4000000 in
theorem begin_any (s : Str) (hl : s.length ≤ 1000000) (w : World) : Calls Tryz.prog 46 #[.string ⟨s.toArray⟩] w fun e w' => Below w.heap.size w w' ∧ e = .returned (.tuple #[.agg #[.int .i64 (bgH s).1, .int .i64 ((bgH s).2.1 : Nat), .int .i64 (bgH s).2.2.1, .int .i64 ((bgH s).2.2.2 : Nat), .slice none 0 0], .string ⟨(bg9 s).1.toArray⟩, .bool (decide (bgOk s))]) := by
  obtain ⟨S0, HS0⟩ : ∃ Z : ByteArray, Hid (⟨s.toArray⟩ = Z) := ⟨_, hid rfl⟩
  obtain ⟨S1, HS1⟩ : ∃ Z : ByteArray, Hid (⟨(bg1 s).1.toArray⟩ = Z) := ⟨_, hid rfl⟩
  obtain ⟨b1, HB1⟩ : ∃ b, Hid ((bg1 s).2 = b) := ⟨_, rfl⟩
  obtain ⟨S2, HS2⟩ : ∃ Z : ByteArray, Hid (⟨(bg2 s).2.1.toArray⟩ = Z) := ⟨_, hid rfl⟩
  obtain ⟨b2, HB2⟩ : ∃ b, Hid ((bg2 s).2.2 = b) := ⟨_, rfl⟩
  obtain ⟨n2, HN2⟩ : ∃ b, Hid ((bg2 s).1 = b) := ⟨_, rfl⟩
  obtain ⟨S3, HS3⟩ : ∃ Z : ByteArray, Hid (⟨(bg3 s).1.toArray⟩ = Z) := ⟨_, hid rfl⟩
  obtain ⟨b3, HB3⟩ : ∃ b, Hid ((bg3 s).2 = b) := ⟨_, rfl⟩
  obtain ⟨S4, HS4⟩ : ∃ Z : ByteArray, Hid (⟨(bg4 s).2.1.toArray⟩ = Z) := ⟨_, hid rfl⟩
  obtain ⟨b4, HB4⟩ : ∃ b, Hid ((bg4 s).2.2 = b) := ⟨_, rfl⟩
  obtain ⟨n4, HN4⟩ : ∃ b, Hid ((bg4 s).1 = b) := ⟨_, rfl⟩
  obtain ⟨S5, HS5⟩ : ∃ Z : ByteArray, Hid (⟨(bg5 s).1.toArray⟩ = Z) := ⟨_, hid rfl⟩
  obtain ⟨b5, HB5⟩ : ∃ b, Hid ((bg5 s).2 = b) := ⟨_, rfl⟩
  obtain ⟨S6, HS6⟩ : ∃ Z : ByteArray, Hid (⟨(bg6 s).2.1.toArray⟩ = Z) := ⟨_, hid rfl⟩
  obtain ⟨b6, HB6⟩ : ∃ b, Hid ((bg6 s).2.2 = b) := ⟨_, rfl⟩
  obtain ⟨n6, HN6⟩ : ∃ b, Hid ((bg6 s).1 = b) := ⟨_, rfl⟩
  obtain ⟨S7, HS7⟩ : ∃ Z : ByteArray, Hid (⟨(bg7 s).1.toArray⟩ = Z) := ⟨_, hid rfl⟩
  obtain ⟨b7, HB7⟩ : ∃ b, Hid ((bg7 s).2 = b) := ⟨_, rfl⟩
  obtain ⟨S8, HS8⟩ : ∃ Z : ByteArray, Hid (⟨(bg8 s).2.1.toArray⟩ = Z) := ⟨_, hid rfl⟩
  obtain ⟨b8, HB8⟩ : ∃ b, Hid ((bg8 s).2.2 = b) := ⟨_, rfl⟩
  obtain ⟨n8, HN8⟩ : ∃ b, Hid ((bg8 s).1 = b) := ⟨_, rfl⟩
  obtain ⟨S9, HS9⟩ : ∃ Z : ByteArray, Hid (⟨(bg9 s).1.toArray⟩ = Z) := ⟨_, hid rfl⟩
  obtain ⟨b9, HB9⟩ : ∃ b, Hid ((bg9 s).2 = b) := ⟨_, rfl⟩
  have L1 : (bg1 s).1.length ≤ 1000000 := Nat.le_trans (wrd_short s hdS) hl
  have C1 : Hid (∀ W : World, Calls Tryz.prog 69 #[.string S0, .string ⟨#[64, 64, 32, 45]⟩] W fun e w' => e = .returned (.tuple #[.string S1, .bool b1]) ∧ w' = W) := hid (fun W => by
    have := word_any s hdS W
    rw [HS0.out, show wrd s hdS = bg1 s from rfl, HS1.out, HB1.out] at this
    exact this)
  have L2 : (bg2 s).2.1.length ≤ 1000000 := Nat.le_trans (nbr_short (bg1 s).1).1 L1
  have M2 : n2 < 10000000000 := by rw [← HN2.out]; exact (nbr_short (bg1 s).1).2
  have C2 : Hid (∀ W : World, Calls Tryz.prog 70 #[.string S1] W fun e w' => e = .returned (.tuple #[.int .i64 (n2 : Int), .string S2, .bool b2]) ∧ Below W.heap.size W w') := hid (fun W => by
    have := number_any (bg1 s).1 L1 W
    rw [HS1.out, show nbr (bg1 s).1 = bg2 s from rfl, HS2.out, HB2.out, HN2.out] at this
    exact this)
  have L3 : (bg3 s).1.length ≤ 1000000 := Nat.le_trans (wrd_short (bg2 s).2.1 [44]) L2
  have C3 : Hid (∀ W : World, Calls Tryz.prog 69 #[.string S2, .string ⟨#[44]⟩] W fun e w' => e = .returned (.tuple #[.string S3, .bool b3]) ∧ w' = W) := hid (fun W => by
    have := word_any (bg2 s).2.1 [44] W
    rw [HS2.out, show wrd (bg2 s).2.1 [44] = bg3 s from rfl, HS3.out, HB3.out] at this
    exact this)
  have L4 : (bg4 s).2.1.length ≤ 1000000 := Nat.le_trans (nbr_short (bg3 s).1).1 L3
  have M4 : n4 < 10000000000 := by rw [← HN4.out]; exact (nbr_short (bg3 s).1).2
  have C4 : Hid (∀ W : World, Calls Tryz.prog 70 #[.string S3] W fun e w' => e = .returned (.tuple #[.int .i64 (n4 : Int), .string S4, .bool b4]) ∧ Below W.heap.size W w') := hid (fun W => by
    have := number_any (bg3 s).1 L3 W
    rw [HS3.out, show nbr (bg3 s).1 = bg4 s from rfl, HS4.out, HB4.out, HN4.out] at this
    exact this)
  have L5 : (bg5 s).1.length ≤ 1000000 := Nat.le_trans (wrd_short (bg4 s).2.1 [32, 43]) L4
  have C5 : Hid (∀ W : World, Calls Tryz.prog 69 #[.string S4, .string ⟨#[32, 43]⟩] W fun e w' => e = .returned (.tuple #[.string S5, .bool b5]) ∧ w' = W) := hid (fun W => by
    have := word_any (bg4 s).2.1 [32, 43] W
    rw [HS4.out, show wrd (bg4 s).2.1 [32, 43] = bg5 s from rfl, HS5.out, HB5.out] at this
    exact this)
  have L6 : (bg6 s).2.1.length ≤ 1000000 := Nat.le_trans (nbr_short (bg5 s).1).1 L5
  have M6 : n6 < 10000000000 := by rw [← HN6.out]; exact (nbr_short (bg5 s).1).2
  have C6 : Hid (∀ W : World, Calls Tryz.prog 70 #[.string S5] W fun e w' => e = .returned (.tuple #[.int .i64 (n6 : Int), .string S6, .bool b6]) ∧ Below W.heap.size W w') := hid (fun W => by
    have := number_any (bg5 s).1 L5 W
    rw [HS5.out, show nbr (bg5 s).1 = bg6 s from rfl, HS6.out, HB6.out, HN6.out] at this
    exact this)
  have L7 : (bg7 s).1.length ≤ 1000000 := Nat.le_trans (wrd_short (bg6 s).2.1 [44]) L6
  have C7 : Hid (∀ W : World, Calls Tryz.prog 69 #[.string S6, .string ⟨#[44]⟩] W fun e w' => e = .returned (.tuple #[.string S7, .bool b7]) ∧ w' = W) := hid (fun W => by
    have := word_any (bg6 s).2.1 [44] W
    rw [HS6.out, show wrd (bg6 s).2.1 [44] = bg7 s from rfl, HS7.out, HB7.out] at this
    exact this)
  have L8 : (bg8 s).2.1.length ≤ 1000000 := Nat.le_trans (nbr_short (bg7 s).1).1 L7
  have M8 : n8 < 10000000000 := by rw [← HN8.out]; exact (nbr_short (bg7 s).1).2
  have C8 : Hid (∀ W : World, Calls Tryz.prog 70 #[.string S7] W fun e w' => e = .returned (.tuple #[.int .i64 (n8 : Int), .string S8, .bool b8]) ∧ Below W.heap.size W w') := hid (fun W => by
    have := number_any (bg7 s).1 L7 W
    rw [HS7.out, show nbr (bg7 s).1 = bg8 s from rfl, HS8.out, HB8.out, HN8.out] at this
    exact this)
  have L9 : (bg9 s).1.length ≤ 1000000 := Nat.le_trans (wrd_short (bg8 s).2.1 [32, 64, 64, 10]) L8
  have C9 : Hid (∀ W : World, Calls Tryz.prog 69 #[.string S8, .string ⟨#[32, 64, 64, 10]⟩] W fun e w' => e = .returned (.tuple #[.string S9, .bool b9]) ∧ w' = W) := hid (fun W => by
    have := word_any (bg8 s).2.1 [32, 64, 64, 10] W
    rw [HS8.out, show wrd (bg8 s).2.1 [32, 64, 64, 10] = bg9 s from rfl, HS9.out, HB9.out] at this
    exact this)
  obtain ⟨At, HAT⟩ : ∃ x, Hid (fst n2 n4 = x) := ⟨_, rfl⟩
  obtain ⟨To, HTO⟩ : ∃ x, Hid (fst n6 n8 = x) := ⟨_, rfl⟩
  have HH : Hid (bgH s = (At, n4, To, n8)) := hid (by unfold bgH; rw [HN2.out, HN4.out, HN6.out, HN8.out, HAT.out, HTO.out])
  obtain ⟨c2, HC2⟩ : ∃ b, Hid ((b1 && b2) = b) := ⟨_, rfl⟩
  obtain ⟨c3, HC3⟩ : ∃ b, Hid ((c2 && b3) = b) := ⟨_, rfl⟩
  obtain ⟨c4, HC4⟩ : ∃ b, Hid ((c3 && b4) = b) := ⟨_, rfl⟩
  obtain ⟨c5, HC5⟩ : ∃ b, Hid ((c4 && b5) = b) := ⟨_, rfl⟩
  obtain ⟨c6, HC6⟩ : ∃ b, Hid ((c5 && b6) = b) := ⟨_, rfl⟩
  obtain ⟨c7, HC7⟩ : ∃ b, Hid ((c6 && b7) = b) := ⟨_, rfl⟩
  obtain ⟨c8, HC8⟩ : ∃ b, Hid ((c7 && b8) = b) := ⟨_, rfl⟩
  obtain ⟨c9, HC9⟩ : ∃ b, Hid ((c8 && b9) = b) := ⟨_, rfl⟩
  obtain ⟨c10, HC10⟩ : ∃ b, Hid ((c9 && decide (0 ≤ At)) = b) := ⟨_, rfl⟩
  obtain ⟨c11, HC11⟩ : ∃ b, Hid ((c10 && decide (0 ≤ To)) = b) := ⟨_, rfl⟩
  have HOK : Hid (decide (bgOk s) = c11) := hid (by
    rw [Bool.eq_iff_iff, decide_eq_true_eq]
    unfold bgOk
    rw [HH.out, HB1.out, HB2.out, HB3.out, HB4.out, HB5.out, HB6.out, HB7.out, HB8.out, HB9.out, ← HC11.out, ← HC10.out, ← HC9.out, ← HC8.out, ← HC7.out, ← HC6.out, ← HC5.out, ← HC4.out, ← HC3.out, ← HC2.out]
    simp only [Bool.and_eq_true, decide_eq_true_eq])
  obtain ⟨G, HG⟩ : ∃ n, Hid (w.heap.size = n) := ⟨_, rfl⟩
  obtain ⟨wa, HWA⟩ : ∃ u, Hid (w.alloc (.cells #[.int .i64 0, .int .i64 0, .int .i64 0, .int .i64 0, .slice none 0 0] 59) = u) := ⟨_, rfl⟩
  obtain ⟨wb, HWB⟩ : ∃ u, Hid (wa.alloc (.cells #[.int .i64 0, .int .i64 0, .int .i64 0, .int .i64 0, .slice none 0 0] 59) = u) := ⟨_, rfl⟩
  have hsa : wa.heap.size = G + 1 := by rw [← HWA.out, ← HG.out]; simp
  have hsb : wb.heap.size = G + 2 := by rw [← HWB.out]; simp [hsa]
  have HBa : Hid (Below G w wb) := hid (by rw [← HWB.out, ← HWA.out]; exact ((Below.refl G w).alloc (by rw [HG.out]; exact Nat.le_refl _) _).alloc (by rw [HWA.out, hsa]; omega) _)
  have HR0 : Hid (wb.heap[G]? = some (.cells #[.int .i64 0, .int .i64 0, .int .i64 0, .int .i64 0, .slice none 0 0] 59 (0, 0))) := hid (by
    rw [← HWB.out, Below.heap_alloc wa _ G (by omega), ← HWA.out, ← HG.out]
    exact heap_alloc_new w _)
  have HR1 : Hid (wb.heap[G + 1]? = some (.cells #[.int .i64 0, .int .i64 0, .int .i64 0, .int .i64 0, .slice none 0 0] 59 (0, 0))) := hid (by
    rw [← HWB.out, ← hsa]
    exact heap_alloc_new wa _)
  have al1 : w.alloc (.cells #[.int .i64 0, .int .i64 0, .int .i64 0, .int .i64 0, .slice none 0 0] 59) = wa := HWA.out
  have al2 : wa.alloc (.cells #[.int .i64 0, .int .i64 0, .int .i64 0, .int .i64 0, .slice none 0 0] 59) = wb := HWB.out
  have hs0 : w.heap.size = G := HG.out
  rw [HS0.out, HOK.out, HH.out, HS9.out, HG.out]
  simp only
  clear L1 L2 L3 L4 L5 L6 L7 L8 L9 hl
  go_enter Tryz.func46, Tryz.ntmps46
  go_wp2_with fail
  refine (C1.out _).mono ?_
  rintro ev w1 ⟨rfl, rfl⟩
  go_wp2_with fail
  refine (C2.out _).mono ?_
  rintro ev w2 ⟨rfl, hb2⟩
  have HV2 : Hid (Below (G + 2) w1 w2) := hid (by rw [← hsb]; exact hb2)
  clear hb2
  go_wp2_with fail
  refine (C3.out _).mono ?_
  rintro ev w3 ⟨rfl, rfl⟩
  go_wp2_with fail
  refine (C4.out _).mono ?_
  rintro ev w4 ⟨rfl, hb4⟩
  have HV4 : Hid (Below (G + 2) w1 w4) := hid (HV2.out.trans (hb4.mono (by have := HV2.out.size; omega)))
  clear hb4
  go_wp2_with fail
  refine (C5.out _).mono ?_
  rintro ev w5 ⟨rfl, rfl⟩
  go_wp2_with fail
  refine (C6.out _).mono ?_
  rintro ev w6 ⟨rfl, hb6⟩
  have HV6 : Hid (Below (G + 2) w1 w6) := hid (HV4.out.trans (hb6.mono (by have := HV4.out.size; omega)))
  clear hb6
  go_wp2_with fail
  refine (C7.out _).mono ?_
  rintro ev w7 ⟨rfl, rfl⟩
  go_wp2_with fail
  refine (C8.out _).mono ?_
  rintro ev w8 ⟨rfl, hb8⟩
  have HV8 : Hid (Below (G + 2) w1 w8) := hid (HV6.out.trans (hb8.mono (by have := HV6.out.size; omega)))
  clear hb8
  go_wp2_with fail
  refine (C9.out _).mono ?_
  rintro ev w9 ⟨rfl, rfl⟩
  have HX0 : Hid (w9.heap[G]? = some (.cells #[.int .i64 0, .int .i64 0, .int .i64 0, .int .i64 0, .slice none 0 0] 59 (0, 0))) := hid ((HV8.out.block G (by omega)).trans HR0.out)
  have HX1 : Hid (w9.heap[G + 1]? = some (.cells #[.int .i64 0, .int .i64 0, .int .i64 0, .int .i64 0, .slice none 0 0] 59 (0, 0))) := hid ((HV8.out.block (G + 1) (by omega)).trans HR1.out)
  have HBW : Hid (Below G w w9) := hid (HBa.out.trans (HV8.out.mono (by omega)))
  obtain ⟨u1, HU1⟩ : ∃ u, Hid (w9.setCells (G + 1) 0 (#[.int .i64 (n2 : Int), .int .i64 (n4 : Int), .int .i64 (n6 : Int), .int .i64 (n8 : Int), .slice none 0 0] : Array Value).toList = u) := ⟨_, rfl⟩
  have HT1 : Hid (w9.there (G + 1) 0 5) := hid (there_off HX1.out 0 (by simp))
  have HQ1 : Hid (BW (G + 1) G (.int .i64 (n2 : Int)) (.int .i64 (n4 : Int)) (.int .i64 (n6 : Int)) (.int .i64 (n8 : Int)) u1) := hid (by
    rw [← HU1.out]
    exact ⟨World.rangeAt_setCells_same _ _ _ _ HT1.out, World.there_setCells (there_off HX0.out 0 (by simp)) _ _ _, World.there_setCells HT1.out _ _ _⟩)
  have HBU : Hid (Below G w u1) := hid (by rw [← HU1.out]; exact below_setCells (by omega) _ _ _ _ HBW.out)
  have hb59 := run_b59
  clear al1 al2 hs0 hsa hsb
  have HS5 : Hid ((Tryz.prog.info? 59).map (·.size) = some (#[.int .i64 (n2 : Int), .int .i64 (n4 : Int), .int .i64 (n6 : Int), .int .i64 (n8 : Int), .slice none 0 0] : Array Value).size) := hid size59
  have HO5 : Hid ((#[.int .i64 (n2 : Int), .int .i64 (n4 : Int), .int .i64 (n6 : Int), .int .i64 (n8 : Int), .slice none 0 0] : Array Value).all (·.oneCell') = true) := hid (by kernel_rfl)
  by_cases h4 : 0 < n4
  · have h4i : (0 : Int) < (n4 : Int) := by omega
    have HAV : Hid ((n2 : Int) - 1 = At) := hid (by rw [← HAT.out]; unfold fst; rw [if_pos h4])
    have q0 := HQ1.out.c0
    have q1 := HQ1.out.f0
    obtain ⟨u2, HU2⟩ : ∃ u, Hid (u1.setCell ⟨G + 1, 0, none⟩ (.int .i64 ((n2 : Int) - 1)) = u) := ⟨_, rfl⟩
    have q2 : u1.setCell ⟨G + 1, 0, none⟩ (.int .i64 ((n2 : Int) - 1)) = u2 := HU2.out
    have HQ2 : Hid (BW (G + 1) G (.int .i64 ((n2 : Int) - 1)) (.int .i64 (n4 : Int)) (.int .i64 (n6 : Int)) (.int .i64 (n8 : Int)) u2) := hid (by rw [← HU2.out]; exact HQ1.out.set0 _)
    have HBX : Hid (Below G w u2) := hid (by rw [← HU2.out]; exact HBU.out.setCell (p := ⟨G + 1, 0, none⟩) (Nat.le_succ _) _)
    by_cases h8 : 0 < n8
    · have h8i : (0 : Int) < (n8 : Int) := by omega
      have HTV : Hid ((n6 : Int) - 1 = To) := hid (by rw [← HTO.out]; unfold fst; rw [if_pos h8])
      have p0 := HQ2.out.c2
      have p1 := HQ2.out.f2
      obtain ⟨u3, HU3⟩ : ∃ u, Hid (u2.setCell ⟨G + 1, 2, none⟩ (.int .i64 ((n6 : Int) - 1)) = u) := ⟨_, rfl⟩
      have p2 : u2.setCell ⟨G + 1, 2, none⟩ (.int .i64 ((n6 : Int) - 1)) = u3 := HU3.out
      have HQ3 : Hid (BW (G + 1) G (.int .i64 At) (.int .i64 (n4 : Int)) (.int .i64 To) (.int .i64 (n8 : Int)) u3) := hid (by rw [← HU3.out, ← HAV.out, ← HTV.out]; exact HQ2.out.set2 _)
      have HBY : Hid (Below G w u3) := hid (by rw [← HU3.out]; exact HBX.out.setCell (p := ⟨G + 1, 2, none⟩) (Nat.le_succ _) _)
      have HSS : Hid (BW (G + 1) G (.int .i64 At) (.int .i64 (n4 : Int)) (.int .i64 To) (.int .i64 (n8 : Int)) u3.drew) := hid ⟨HQ3.out.r, HQ3.out.t, HQ3.out.k⟩
      have HBD : Hid (Below G w u3.drew) := hid (HBY.out.trans ⟨rfl, rfl, rfl, Nat.le_refl _, fun _ _ => rfl⟩)
      go_wp2_with (first
        | (refine wpList_store_mid rfl 59 _ _ rfl (G + 1) 0 #[.int .i64 (n2 : Int), .int .i64 (n4 : Int), .int .i64 (n6 : Int), .int .i64 (n8 : Int), .slice none 0 0] rfl rfl HT1.out HS5.out HO5.out ?_; rw [HU1.out])
        | fail)
      refine wp_region_held_drew (S := BW (G + 1) G (.int .i64 At) (.int .i64 (n4 : Int)) (.int .i64 To) (.int .i64 (n8 : Int))) (by kernel_rfl) HSS.out (fun hHeld => ?_)
      generalize u3.drew = u0 at hHeld HSS HBD ⊢
      clear HSS
      refine takeL (i := 0) (v := .agg #[.int .i64 At, .int .i64 (n4 : Int), .int .i64 To, .int .i64 (n8 : Int), .slice none 0 0]) rfl (by kernel_rfl) (by kernel_rfl) (by kernel_rfl) (fun _ _ _ h => h) (yieldsIf_load_mid (by rfl) 59 _ rfl (G + 1) 0 (by rfl) [.int .i64 At, .int .i64 (n4 : Int), .int .i64 To, .int .i64 (n8 : Int), .slice none 0 0] _ (fun w' h => h.r) Tryz.underlying59 rfl size59) hHeld ?_
      try simp only [Act.put, List.setIfInBounds_toArray, List.set_cons_zero, List.set_cons_succ]
      refine takeL (i := 1) (v := .string S9) rfl (by kernel_rfl) (by kernel_rfl) (by kernel_rfl) (fun _ _ _ h => h) (Or.inl ⟨by rfl, by intro w' h; go_simp; try rfl⟩) hHeld ?_
      try simp only [Act.put, List.setIfInBounds_toArray, List.set_cons_zero, List.set_cons_succ]
      refine takeL (i := 2) (v := .bool b1) rfl (by kernel_rfl) (by kernel_rfl) (by kernel_rfl) (fun _ _ _ h => h) (Or.inl ⟨by rfl, by intro w' h; go_simp; try rfl⟩) hHeld ?_
      try simp only [Act.put, List.setIfInBounds_toArray, List.set_cons_zero, List.set_cons_succ]
      refine takeL (i := 3) (v := .bool b1) rfl (by kernel_rfl) (by kernel_rfl) (by kernel_rfl) (fun _ _ _ h => h) (Or.inl ⟨by rfl, by intro w' h; go_simp; try rfl⟩) hHeld ?_
      try simp only [Act.put, List.setIfInBounds_toArray, List.set_cons_zero, List.set_cons_succ]
      refine takeL (i := 4) (v := gv b1 (.bool b2)) rfl (by kernel_rfl) (by kernel_rfl) (by kernel_rfl) (fun _ _ _ h => h) (by cases b1 with | false => exact Or.inr ⟨by kernel_rfl, rfl⟩ | true => exact Or.inl ⟨by rfl, by intro w' h; simp only [gv_t]; go_simp; try rfl⟩) hHeld ?_
      try simp only [Act.put, List.setIfInBounds_toArray, List.set_cons_zero, List.set_cons_succ]
      refine takeL (i := 5) (v := .bool c2) rfl (by kernel_rfl) (by kernel_rfl) (by kernel_rfl) (fun _ _ _ h => h) (Or.inl ⟨by rfl, by intro w' h; rw [← HC2.out]; cases b1 <;> (simp only [gv_t, gv_f, Bool.true_and, Bool.false_and]; go_simp; try rfl)⟩) hHeld ?_
      try simp only [Act.put, List.setIfInBounds_toArray, List.set_cons_zero, List.set_cons_succ]
      refine takeL (i := 6) (v := .bool c2) rfl (by kernel_rfl) (by kernel_rfl) (by kernel_rfl) (fun _ _ _ h => h) (Or.inl ⟨by rfl, by intro w' h; go_simp; try rfl⟩) hHeld ?_
      try simp only [Act.put, List.setIfInBounds_toArray, List.set_cons_zero, List.set_cons_succ]
      refine takeL (i := 7) (v := gv c2 (.bool b3)) rfl (by kernel_rfl) (by kernel_rfl) (by kernel_rfl) (fun _ _ _ h => h) (by cases c2 with | false => exact Or.inr ⟨by kernel_rfl, rfl⟩ | true => exact Or.inl ⟨by rfl, by intro w' h; simp only [gv_t]; go_simp; try rfl⟩) hHeld ?_
      try simp only [Act.put, List.setIfInBounds_toArray, List.set_cons_zero, List.set_cons_succ]
      refine takeL (i := 8) (v := .bool c3) rfl (by kernel_rfl) (by kernel_rfl) (by kernel_rfl) (fun _ _ _ h => h) (Or.inl ⟨by rfl, by intro w' h; rw [← HC3.out]; cases c2 <;> (simp only [gv_t, gv_f, Bool.true_and, Bool.false_and]; go_simp; try rfl)⟩) hHeld ?_
      try simp only [Act.put, List.setIfInBounds_toArray, List.set_cons_zero, List.set_cons_succ]
      refine takeL (i := 9) (v := .bool c3) rfl (by kernel_rfl) (by kernel_rfl) (by kernel_rfl) (fun _ _ _ h => h) (Or.inl ⟨by rfl, by intro w' h; go_simp; try rfl⟩) hHeld ?_
      try simp only [Act.put, List.setIfInBounds_toArray, List.set_cons_zero, List.set_cons_succ]
      refine takeL (i := 10) (v := gv c3 (.bool b4)) rfl (by kernel_rfl) (by kernel_rfl) (by kernel_rfl) (fun _ _ _ h => h) (by cases c3 with | false => exact Or.inr ⟨by kernel_rfl, rfl⟩ | true => exact Or.inl ⟨by rfl, by intro w' h; simp only [gv_t]; go_simp; try rfl⟩) hHeld ?_
      try simp only [Act.put, List.setIfInBounds_toArray, List.set_cons_zero, List.set_cons_succ]
      refine takeL (i := 11) (v := .bool c4) rfl (by kernel_rfl) (by kernel_rfl) (by kernel_rfl) (fun _ _ _ h => h) (Or.inl ⟨by rfl, by intro w' h; rw [← HC4.out]; cases c3 <;> (simp only [gv_t, gv_f, Bool.true_and, Bool.false_and]; go_simp; try rfl)⟩) hHeld ?_
      try simp only [Act.put, List.setIfInBounds_toArray, List.set_cons_zero, List.set_cons_succ]
      refine takeL (i := 12) (v := .bool c4) rfl (by kernel_rfl) (by kernel_rfl) (by kernel_rfl) (fun _ _ _ h => h) (Or.inl ⟨by rfl, by intro w' h; go_simp; try rfl⟩) hHeld ?_
      try simp only [Act.put, List.setIfInBounds_toArray, List.set_cons_zero, List.set_cons_succ]
      refine takeL (i := 13) (v := gv c4 (.bool b5)) rfl (by kernel_rfl) (by kernel_rfl) (by kernel_rfl) (fun _ _ _ h => h) (by cases c4 with | false => exact Or.inr ⟨by kernel_rfl, rfl⟩ | true => exact Or.inl ⟨by rfl, by intro w' h; simp only [gv_t]; go_simp; try rfl⟩) hHeld ?_
      try simp only [Act.put, List.setIfInBounds_toArray, List.set_cons_zero, List.set_cons_succ]
      refine takeL (i := 14) (v := .bool c5) rfl (by kernel_rfl) (by kernel_rfl) (by kernel_rfl) (fun _ _ _ h => h) (Or.inl ⟨by rfl, by intro w' h; rw [← HC5.out]; cases c4 <;> (simp only [gv_t, gv_f, Bool.true_and, Bool.false_and]; go_simp; try rfl)⟩) hHeld ?_
      try simp only [Act.put, List.setIfInBounds_toArray, List.set_cons_zero, List.set_cons_succ]
      refine takeL (i := 15) (v := .bool c5) rfl (by kernel_rfl) (by kernel_rfl) (by kernel_rfl) (fun _ _ _ h => h) (Or.inl ⟨by rfl, by intro w' h; go_simp; try rfl⟩) hHeld ?_
      try simp only [Act.put, List.setIfInBounds_toArray, List.set_cons_zero, List.set_cons_succ]
      refine takeL (i := 16) (v := gv c5 (.bool b6)) rfl (by kernel_rfl) (by kernel_rfl) (by kernel_rfl) (fun _ _ _ h => h) (by cases c5 with | false => exact Or.inr ⟨by kernel_rfl, rfl⟩ | true => exact Or.inl ⟨by rfl, by intro w' h; simp only [gv_t]; go_simp; try rfl⟩) hHeld ?_
      try simp only [Act.put, List.setIfInBounds_toArray, List.set_cons_zero, List.set_cons_succ]
      refine takeL (i := 17) (v := .bool c6) rfl (by kernel_rfl) (by kernel_rfl) (by kernel_rfl) (fun _ _ _ h => h) (Or.inl ⟨by rfl, by intro w' h; rw [← HC6.out]; cases c5 <;> (simp only [gv_t, gv_f, Bool.true_and, Bool.false_and]; go_simp; try rfl)⟩) hHeld ?_
      try simp only [Act.put, List.setIfInBounds_toArray, List.set_cons_zero, List.set_cons_succ]
      refine takeL (i := 18) (v := .bool c6) rfl (by kernel_rfl) (by kernel_rfl) (by kernel_rfl) (fun _ _ _ h => h) (Or.inl ⟨by rfl, by intro w' h; go_simp; try rfl⟩) hHeld ?_
      try simp only [Act.put, List.setIfInBounds_toArray, List.set_cons_zero, List.set_cons_succ]
      refine takeL (i := 19) (v := gv c6 (.bool b7)) rfl (by kernel_rfl) (by kernel_rfl) (by kernel_rfl) (fun _ _ _ h => h) (by cases c6 with | false => exact Or.inr ⟨by kernel_rfl, rfl⟩ | true => exact Or.inl ⟨by rfl, by intro w' h; simp only [gv_t]; go_simp; try rfl⟩) hHeld ?_
      try simp only [Act.put, List.setIfInBounds_toArray, List.set_cons_zero, List.set_cons_succ]
      refine takeL (i := 20) (v := .bool c7) rfl (by kernel_rfl) (by kernel_rfl) (by kernel_rfl) (fun _ _ _ h => h) (Or.inl ⟨by rfl, by intro w' h; rw [← HC7.out]; cases c6 <;> (simp only [gv_t, gv_f, Bool.true_and, Bool.false_and]; go_simp; try rfl)⟩) hHeld ?_
      try simp only [Act.put, List.setIfInBounds_toArray, List.set_cons_zero, List.set_cons_succ]
      refine takeL (i := 21) (v := .bool c7) rfl (by kernel_rfl) (by kernel_rfl) (by kernel_rfl) (fun _ _ _ h => h) (Or.inl ⟨by rfl, by intro w' h; go_simp; try rfl⟩) hHeld ?_
      try simp only [Act.put, List.setIfInBounds_toArray, List.set_cons_zero, List.set_cons_succ]
      refine takeL (i := 22) (v := gv c7 (.bool b8)) rfl (by kernel_rfl) (by kernel_rfl) (by kernel_rfl) (fun _ _ _ h => h) (by cases c7 with | false => exact Or.inr ⟨by kernel_rfl, rfl⟩ | true => exact Or.inl ⟨by rfl, by intro w' h; simp only [gv_t]; go_simp; try rfl⟩) hHeld ?_
      try simp only [Act.put, List.setIfInBounds_toArray, List.set_cons_zero, List.set_cons_succ]
      refine takeL (i := 23) (v := .bool c8) rfl (by kernel_rfl) (by kernel_rfl) (by kernel_rfl) (fun _ _ _ h => h) (Or.inl ⟨by rfl, by intro w' h; rw [← HC8.out]; cases c7 <;> (simp only [gv_t, gv_f, Bool.true_and, Bool.false_and]; go_simp; try rfl)⟩) hHeld ?_
      try simp only [Act.put, List.setIfInBounds_toArray, List.set_cons_zero, List.set_cons_succ]
      refine takeL (i := 24) (v := .bool c8) rfl (by kernel_rfl) (by kernel_rfl) (by kernel_rfl) (fun _ _ _ h => h) (Or.inl ⟨by rfl, by intro w' h; go_simp; try rfl⟩) hHeld ?_
      try simp only [Act.put, List.setIfInBounds_toArray, List.set_cons_zero, List.set_cons_succ]
      refine takeL (i := 25) (v := gv c8 (.bool b9)) rfl (by kernel_rfl) (by kernel_rfl) (by kernel_rfl) (fun _ _ _ h => h) (by cases c8 with | false => exact Or.inr ⟨by kernel_rfl, rfl⟩ | true => exact Or.inl ⟨by rfl, by intro w' h; simp only [gv_t]; go_simp; try rfl⟩) hHeld ?_
      try simp only [Act.put, List.setIfInBounds_toArray, List.set_cons_zero, List.set_cons_succ]
      refine takeL (i := 26) (v := .bool c9) rfl (by kernel_rfl) (by kernel_rfl) (by kernel_rfl) (fun _ _ _ h => h) (Or.inl ⟨by rfl, by intro w' h; rw [← HC9.out]; cases c8 <;> (simp only [gv_t, gv_f, Bool.true_and, Bool.false_and]; go_simp; try rfl)⟩) hHeld ?_
      try simp only [Act.put, List.setIfInBounds_toArray, List.set_cons_zero, List.set_cons_succ]
      refine takeL (i := 27) (v := .bool c9) rfl (by kernel_rfl) (by kernel_rfl) (by kernel_rfl) (fun _ _ _ h => h) (Or.inl ⟨by rfl, by intro w' h; go_simp; try rfl⟩) hHeld ?_
      try simp only [Act.put, List.setIfInBounds_toArray, List.set_cons_zero, List.set_cons_succ]
      refine takeL (i := 28) (v := gv c9 (.pointer (some ⟨G + 1, 0, none⟩))) rfl (by kernel_rfl) (by kernel_rfl) (by kernel_rfl) (fun _ _ _ h => h) (by cases c9 with | false => exact Or.inr ⟨by kernel_rfl, rfl⟩ | true => exact Or.inl ⟨by rfl, by intro w' h; simp only [gv_t]; go_simp; try rfl⟩) hHeld ?_
      try simp only [Act.put, List.setIfInBounds_toArray, List.set_cons_zero, List.set_cons_succ]
      refine takeL (i := 29) (v := gv c9 (.int .i64 At)) rfl (by kernel_rfl) (by kernel_rfl) (by kernel_rfl) (fun _ _ _ h => h) (by cases c9 with | false => exact Or.inr ⟨by kernel_rfl, rfl⟩ | true => exact Or.inl ⟨by rfl, by intro w' h; have h0 := h.c0; simp only [gv_t]; go_simp; try rfl⟩) hHeld ?_
      try simp only [Act.put, List.setIfInBounds_toArray, List.set_cons_zero, List.set_cons_succ]
      refine takeL (i := 30) (v := gv c9 (.bool (decide (0 ≤ At)))) rfl (by kernel_rfl) (by kernel_rfl) (by kernel_rfl) (fun _ _ _ h => h) (by cases c9 with | false => exact Or.inr ⟨by kernel_rfl, rfl⟩ | true => exact Or.inl ⟨by rfl, by intro w' h; simp only [gv_t]; go_simp; try rfl⟩) hHeld ?_
      try simp only [Act.put, List.setIfInBounds_toArray, List.set_cons_zero, List.set_cons_succ]
      refine takeL (i := 31) (v := .bool c10) rfl (by kernel_rfl) (by kernel_rfl) (by kernel_rfl) (fun _ _ _ h => h) (Or.inl ⟨by rfl, by intro w' h; rw [← HC10.out]; cases c9 <;> (simp only [gv_t, gv_f, Bool.true_and, Bool.false_and]; go_simp; try rfl)⟩) hHeld ?_
      try simp only [Act.put, List.setIfInBounds_toArray, List.set_cons_zero, List.set_cons_succ]
      refine takeL (i := 32) (v := .bool c10) rfl (by kernel_rfl) (by kernel_rfl) (by kernel_rfl) (fun _ _ _ h => h) (Or.inl ⟨by rfl, by intro w' h; go_simp; try rfl⟩) hHeld ?_
      try simp only [Act.put, List.setIfInBounds_toArray, List.set_cons_zero, List.set_cons_succ]
      refine takeL (i := 33) (v := gv c10 (.pointer (some ⟨G + 1, 2, none⟩))) rfl (by kernel_rfl) (by kernel_rfl) (by kernel_rfl) (fun _ _ _ h => h) (by cases c10 with | false => exact Or.inr ⟨by kernel_rfl, rfl⟩ | true => exact Or.inl ⟨by rfl, by intro w' h; simp only [gv_t]; go_simp; try rfl⟩) hHeld ?_
      try simp only [Act.put, List.setIfInBounds_toArray, List.set_cons_zero, List.set_cons_succ]
      refine takeL (i := 34) (v := gv c10 (.int .i64 To)) rfl (by kernel_rfl) (by kernel_rfl) (by kernel_rfl) (fun _ _ _ h => h) (by cases c10 with | false => exact Or.inr ⟨by kernel_rfl, rfl⟩ | true => exact Or.inl ⟨by rfl, by intro w' h; have h2 := h.c2; simp only [gv_t]; go_simp; try rfl⟩) hHeld ?_
      try simp only [Act.put, List.setIfInBounds_toArray, List.set_cons_zero, List.set_cons_succ]
      refine takeL (i := 35) (v := gv c10 (.bool (decide (0 ≤ To)))) rfl (by kernel_rfl) (by kernel_rfl) (by kernel_rfl) (fun _ _ _ h => h) (by cases c10 with | false => exact Or.inr ⟨by kernel_rfl, rfl⟩ | true => exact Or.inl ⟨by rfl, by intro w' h; simp only [gv_t]; go_simp; try rfl⟩) hHeld ?_
      try simp only [Act.put, List.setIfInBounds_toArray, List.set_cons_zero, List.set_cons_succ]
      refine takeL (i := 36) (v := .bool c11) rfl (by kernel_rfl) (by kernel_rfl) (by kernel_rfl) (fun _ _ _ h => h) (Or.inl ⟨by rfl, by intro w' h; rw [← HC11.out]; cases c10 <;> (simp only [gv_t, gv_f, Bool.true_and, Bool.false_and]; go_simp; try rfl)⟩) hHeld ?_
      try simp only [Act.put, List.setIfInBounds_toArray, List.set_cons_zero, List.set_cons_succ]
      refine wpAnyH_ready (rs := [37]) (by kernel_rfl) (by simp) ?_
      refine consL rfl (fun KK hKK => ?_) AllReadyH.nil
      refine step_store (by rfl) 59 _ _ (by rfl) G 0 #[.int .i64 At, .int .i64 (n4 : Int), .int .i64 To, .int .i64 (n8 : Int), .slice none 0 0] (by rfl) (by rfl) hHeld.t size59 (by kernel_rfl) ?_
      refine hKK.out _ _ ⟨World.rangeAt_setCells_apart hHeld.r G 0 _ (.inl (by omega)), World.there_setCells hHeld.t _ _ _, World.there_setCells hHeld.k _ _ _⟩ (fun hHeld2 => ?_)
      clear hKK KK
      try simp only [Act.put, List.setIfInBounds_toArray, List.set_cons_zero, List.set_cons_succ]
      refine takeL (i := 38) (v := .string S9) rfl (by kernel_rfl) (by kernel_rfl) (by kernel_rfl) (fun _ _ _ h => h) (Or.inl ⟨by rfl, by intro w' h; go_simp; try rfl⟩) hHeld2 ?_
      try simp only [Act.put, List.setIfInBounds_toArray, List.set_cons_zero, List.set_cons_succ]
      refine takeL (i := 39) (v := .bool c11) rfl (by kernel_rfl) (by kernel_rfl) (by kernel_rfl) (fun _ _ _ h => h) (Or.inl ⟨by rfl, by intro w' h; go_simp; try rfl⟩) hHeld2 ?_
      try simp only [Act.put, List.setIfInBounds_toArray, List.set_cons_zero, List.set_cons_succ]
      refine wpAnyH_done (by kernel_rfl) ?_ _
      have HRR := hid (World.rangeAt_setCells_same u0 G 0 [.int .i64 At, .int .i64 (n4 : Int), .int .i64 To, .int .i64 (n8 : Int), .slice none 0 0] hHeld.t)
      have HFB : Hid (Below G w (u0.setCells G 0 [.int .i64 At, .int .i64 (n4 : Int), .int .i64 To, .int .i64 (n8 : Int), .slice none 0 0])) := hid (below_setCells (Nat.le_refl _) _ _ _ _ HBD.out)
      clear hHeld hHeld2
      go_wp2_with fail
      refine bodyPost_ret (v := .tuple #[.agg #[.int .i64 At, .int .i64 (n4 : Int), .int .i64 To, .int .i64 (n8 : Int), .slice none 0 0], .string S9, .bool c11]) (results_c3 Tryz.results46 _ _ G _ _ rfl HRR.out Tryz.underlying59 rfl size59) rfl ?_
      exact ⟨HFB.out, rfl⟩
    · have h8i : ¬ (0 : Int) < (n8 : Int) := by omega
      have HTV : Hid ((n6 : Int) = To) := hid (by rw [← HTO.out]; unfold fst; rw [if_neg h8])
      have HQ3 : Hid (BW (G + 1) G (.int .i64 At) (.int .i64 (n4 : Int)) (.int .i64 To) (.int .i64 (n8 : Int)) u2) := hid (by rw [← HAV.out, ← HTV.out]; exact HQ2.out)
      have HBY := HBX
      have HSS : Hid (BW (G + 1) G (.int .i64 At) (.int .i64 (n4 : Int)) (.int .i64 To) (.int .i64 (n8 : Int)) u2.drew) := hid ⟨HQ3.out.r, HQ3.out.t, HQ3.out.k⟩
      have HBD : Hid (Below G w u2.drew) := hid (HBY.out.trans ⟨rfl, rfl, rfl, Nat.le_refl _, fun _ _ => rfl⟩)
      go_wp2_with (first
        | (refine wpList_store_mid rfl 59 _ _ rfl (G + 1) 0 #[.int .i64 (n2 : Int), .int .i64 (n4 : Int), .int .i64 (n6 : Int), .int .i64 (n8 : Int), .slice none 0 0] rfl rfl HT1.out HS5.out HO5.out ?_; rw [HU1.out])
        | fail)
      refine wp_region_held_drew (S := BW (G + 1) G (.int .i64 At) (.int .i64 (n4 : Int)) (.int .i64 To) (.int .i64 (n8 : Int))) (by kernel_rfl) HSS.out (fun hHeld => ?_)
      generalize u2.drew = u0 at hHeld HSS HBD ⊢
      clear HSS
      refine takeL (i := 0) (v := .agg #[.int .i64 At, .int .i64 (n4 : Int), .int .i64 To, .int .i64 (n8 : Int), .slice none 0 0]) rfl (by kernel_rfl) (by kernel_rfl) (by kernel_rfl) (fun _ _ _ h => h) (yieldsIf_load_mid (by rfl) 59 _ rfl (G + 1) 0 (by rfl) [.int .i64 At, .int .i64 (n4 : Int), .int .i64 To, .int .i64 (n8 : Int), .slice none 0 0] _ (fun w' h => h.r) Tryz.underlying59 rfl size59) hHeld ?_
      try simp only [Act.put, List.setIfInBounds_toArray, List.set_cons_zero, List.set_cons_succ]
      refine takeL (i := 1) (v := .string S9) rfl (by kernel_rfl) (by kernel_rfl) (by kernel_rfl) (fun _ _ _ h => h) (Or.inl ⟨by rfl, by intro w' h; go_simp; try rfl⟩) hHeld ?_
      try simp only [Act.put, List.setIfInBounds_toArray, List.set_cons_zero, List.set_cons_succ]
      refine takeL (i := 2) (v := .bool b1) rfl (by kernel_rfl) (by kernel_rfl) (by kernel_rfl) (fun _ _ _ h => h) (Or.inl ⟨by rfl, by intro w' h; go_simp; try rfl⟩) hHeld ?_
      try simp only [Act.put, List.setIfInBounds_toArray, List.set_cons_zero, List.set_cons_succ]
      refine takeL (i := 3) (v := .bool b1) rfl (by kernel_rfl) (by kernel_rfl) (by kernel_rfl) (fun _ _ _ h => h) (Or.inl ⟨by rfl, by intro w' h; go_simp; try rfl⟩) hHeld ?_
      try simp only [Act.put, List.setIfInBounds_toArray, List.set_cons_zero, List.set_cons_succ]
      refine takeL (i := 4) (v := gv b1 (.bool b2)) rfl (by kernel_rfl) (by kernel_rfl) (by kernel_rfl) (fun _ _ _ h => h) (by cases b1 with | false => exact Or.inr ⟨by kernel_rfl, rfl⟩ | true => exact Or.inl ⟨by rfl, by intro w' h; simp only [gv_t]; go_simp; try rfl⟩) hHeld ?_
      try simp only [Act.put, List.setIfInBounds_toArray, List.set_cons_zero, List.set_cons_succ]
      refine takeL (i := 5) (v := .bool c2) rfl (by kernel_rfl) (by kernel_rfl) (by kernel_rfl) (fun _ _ _ h => h) (Or.inl ⟨by rfl, by intro w' h; rw [← HC2.out]; cases b1 <;> (simp only [gv_t, gv_f, Bool.true_and, Bool.false_and]; go_simp; try rfl)⟩) hHeld ?_
      try simp only [Act.put, List.setIfInBounds_toArray, List.set_cons_zero, List.set_cons_succ]
      refine takeL (i := 6) (v := .bool c2) rfl (by kernel_rfl) (by kernel_rfl) (by kernel_rfl) (fun _ _ _ h => h) (Or.inl ⟨by rfl, by intro w' h; go_simp; try rfl⟩) hHeld ?_
      try simp only [Act.put, List.setIfInBounds_toArray, List.set_cons_zero, List.set_cons_succ]
      refine takeL (i := 7) (v := gv c2 (.bool b3)) rfl (by kernel_rfl) (by kernel_rfl) (by kernel_rfl) (fun _ _ _ h => h) (by cases c2 with | false => exact Or.inr ⟨by kernel_rfl, rfl⟩ | true => exact Or.inl ⟨by rfl, by intro w' h; simp only [gv_t]; go_simp; try rfl⟩) hHeld ?_
      try simp only [Act.put, List.setIfInBounds_toArray, List.set_cons_zero, List.set_cons_succ]
      refine takeL (i := 8) (v := .bool c3) rfl (by kernel_rfl) (by kernel_rfl) (by kernel_rfl) (fun _ _ _ h => h) (Or.inl ⟨by rfl, by intro w' h; rw [← HC3.out]; cases c2 <;> (simp only [gv_t, gv_f, Bool.true_and, Bool.false_and]; go_simp; try rfl)⟩) hHeld ?_
      try simp only [Act.put, List.setIfInBounds_toArray, List.set_cons_zero, List.set_cons_succ]
      refine takeL (i := 9) (v := .bool c3) rfl (by kernel_rfl) (by kernel_rfl) (by kernel_rfl) (fun _ _ _ h => h) (Or.inl ⟨by rfl, by intro w' h; go_simp; try rfl⟩) hHeld ?_
      try simp only [Act.put, List.setIfInBounds_toArray, List.set_cons_zero, List.set_cons_succ]
      refine takeL (i := 10) (v := gv c3 (.bool b4)) rfl (by kernel_rfl) (by kernel_rfl) (by kernel_rfl) (fun _ _ _ h => h) (by cases c3 with | false => exact Or.inr ⟨by kernel_rfl, rfl⟩ | true => exact Or.inl ⟨by rfl, by intro w' h; simp only [gv_t]; go_simp; try rfl⟩) hHeld ?_
      try simp only [Act.put, List.setIfInBounds_toArray, List.set_cons_zero, List.set_cons_succ]
      refine takeL (i := 11) (v := .bool c4) rfl (by kernel_rfl) (by kernel_rfl) (by kernel_rfl) (fun _ _ _ h => h) (Or.inl ⟨by rfl, by intro w' h; rw [← HC4.out]; cases c3 <;> (simp only [gv_t, gv_f, Bool.true_and, Bool.false_and]; go_simp; try rfl)⟩) hHeld ?_
      try simp only [Act.put, List.setIfInBounds_toArray, List.set_cons_zero, List.set_cons_succ]
      refine takeL (i := 12) (v := .bool c4) rfl (by kernel_rfl) (by kernel_rfl) (by kernel_rfl) (fun _ _ _ h => h) (Or.inl ⟨by rfl, by intro w' h; go_simp; try rfl⟩) hHeld ?_
      try simp only [Act.put, List.setIfInBounds_toArray, List.set_cons_zero, List.set_cons_succ]
      refine takeL (i := 13) (v := gv c4 (.bool b5)) rfl (by kernel_rfl) (by kernel_rfl) (by kernel_rfl) (fun _ _ _ h => h) (by cases c4 with | false => exact Or.inr ⟨by kernel_rfl, rfl⟩ | true => exact Or.inl ⟨by rfl, by intro w' h; simp only [gv_t]; go_simp; try rfl⟩) hHeld ?_
      try simp only [Act.put, List.setIfInBounds_toArray, List.set_cons_zero, List.set_cons_succ]
      refine takeL (i := 14) (v := .bool c5) rfl (by kernel_rfl) (by kernel_rfl) (by kernel_rfl) (fun _ _ _ h => h) (Or.inl ⟨by rfl, by intro w' h; rw [← HC5.out]; cases c4 <;> (simp only [gv_t, gv_f, Bool.true_and, Bool.false_and]; go_simp; try rfl)⟩) hHeld ?_
      try simp only [Act.put, List.setIfInBounds_toArray, List.set_cons_zero, List.set_cons_succ]
      refine takeL (i := 15) (v := .bool c5) rfl (by kernel_rfl) (by kernel_rfl) (by kernel_rfl) (fun _ _ _ h => h) (Or.inl ⟨by rfl, by intro w' h; go_simp; try rfl⟩) hHeld ?_
      try simp only [Act.put, List.setIfInBounds_toArray, List.set_cons_zero, List.set_cons_succ]
      refine takeL (i := 16) (v := gv c5 (.bool b6)) rfl (by kernel_rfl) (by kernel_rfl) (by kernel_rfl) (fun _ _ _ h => h) (by cases c5 with | false => exact Or.inr ⟨by kernel_rfl, rfl⟩ | true => exact Or.inl ⟨by rfl, by intro w' h; simp only [gv_t]; go_simp; try rfl⟩) hHeld ?_
      try simp only [Act.put, List.setIfInBounds_toArray, List.set_cons_zero, List.set_cons_succ]
      refine takeL (i := 17) (v := .bool c6) rfl (by kernel_rfl) (by kernel_rfl) (by kernel_rfl) (fun _ _ _ h => h) (Or.inl ⟨by rfl, by intro w' h; rw [← HC6.out]; cases c5 <;> (simp only [gv_t, gv_f, Bool.true_and, Bool.false_and]; go_simp; try rfl)⟩) hHeld ?_
      try simp only [Act.put, List.setIfInBounds_toArray, List.set_cons_zero, List.set_cons_succ]
      refine takeL (i := 18) (v := .bool c6) rfl (by kernel_rfl) (by kernel_rfl) (by kernel_rfl) (fun _ _ _ h => h) (Or.inl ⟨by rfl, by intro w' h; go_simp; try rfl⟩) hHeld ?_
      try simp only [Act.put, List.setIfInBounds_toArray, List.set_cons_zero, List.set_cons_succ]
      refine takeL (i := 19) (v := gv c6 (.bool b7)) rfl (by kernel_rfl) (by kernel_rfl) (by kernel_rfl) (fun _ _ _ h => h) (by cases c6 with | false => exact Or.inr ⟨by kernel_rfl, rfl⟩ | true => exact Or.inl ⟨by rfl, by intro w' h; simp only [gv_t]; go_simp; try rfl⟩) hHeld ?_
      try simp only [Act.put, List.setIfInBounds_toArray, List.set_cons_zero, List.set_cons_succ]
      refine takeL (i := 20) (v := .bool c7) rfl (by kernel_rfl) (by kernel_rfl) (by kernel_rfl) (fun _ _ _ h => h) (Or.inl ⟨by rfl, by intro w' h; rw [← HC7.out]; cases c6 <;> (simp only [gv_t, gv_f, Bool.true_and, Bool.false_and]; go_simp; try rfl)⟩) hHeld ?_
      try simp only [Act.put, List.setIfInBounds_toArray, List.set_cons_zero, List.set_cons_succ]
      refine takeL (i := 21) (v := .bool c7) rfl (by kernel_rfl) (by kernel_rfl) (by kernel_rfl) (fun _ _ _ h => h) (Or.inl ⟨by rfl, by intro w' h; go_simp; try rfl⟩) hHeld ?_
      try simp only [Act.put, List.setIfInBounds_toArray, List.set_cons_zero, List.set_cons_succ]
      refine takeL (i := 22) (v := gv c7 (.bool b8)) rfl (by kernel_rfl) (by kernel_rfl) (by kernel_rfl) (fun _ _ _ h => h) (by cases c7 with | false => exact Or.inr ⟨by kernel_rfl, rfl⟩ | true => exact Or.inl ⟨by rfl, by intro w' h; simp only [gv_t]; go_simp; try rfl⟩) hHeld ?_
      try simp only [Act.put, List.setIfInBounds_toArray, List.set_cons_zero, List.set_cons_succ]
      refine takeL (i := 23) (v := .bool c8) rfl (by kernel_rfl) (by kernel_rfl) (by kernel_rfl) (fun _ _ _ h => h) (Or.inl ⟨by rfl, by intro w' h; rw [← HC8.out]; cases c7 <;> (simp only [gv_t, gv_f, Bool.true_and, Bool.false_and]; go_simp; try rfl)⟩) hHeld ?_
      try simp only [Act.put, List.setIfInBounds_toArray, List.set_cons_zero, List.set_cons_succ]
      refine takeL (i := 24) (v := .bool c8) rfl (by kernel_rfl) (by kernel_rfl) (by kernel_rfl) (fun _ _ _ h => h) (Or.inl ⟨by rfl, by intro w' h; go_simp; try rfl⟩) hHeld ?_
      try simp only [Act.put, List.setIfInBounds_toArray, List.set_cons_zero, List.set_cons_succ]
      refine takeL (i := 25) (v := gv c8 (.bool b9)) rfl (by kernel_rfl) (by kernel_rfl) (by kernel_rfl) (fun _ _ _ h => h) (by cases c8 with | false => exact Or.inr ⟨by kernel_rfl, rfl⟩ | true => exact Or.inl ⟨by rfl, by intro w' h; simp only [gv_t]; go_simp; try rfl⟩) hHeld ?_
      try simp only [Act.put, List.setIfInBounds_toArray, List.set_cons_zero, List.set_cons_succ]
      refine takeL (i := 26) (v := .bool c9) rfl (by kernel_rfl) (by kernel_rfl) (by kernel_rfl) (fun _ _ _ h => h) (Or.inl ⟨by rfl, by intro w' h; rw [← HC9.out]; cases c8 <;> (simp only [gv_t, gv_f, Bool.true_and, Bool.false_and]; go_simp; try rfl)⟩) hHeld ?_
      try simp only [Act.put, List.setIfInBounds_toArray, List.set_cons_zero, List.set_cons_succ]
      refine takeL (i := 27) (v := .bool c9) rfl (by kernel_rfl) (by kernel_rfl) (by kernel_rfl) (fun _ _ _ h => h) (Or.inl ⟨by rfl, by intro w' h; go_simp; try rfl⟩) hHeld ?_
      try simp only [Act.put, List.setIfInBounds_toArray, List.set_cons_zero, List.set_cons_succ]
      refine takeL (i := 28) (v := gv c9 (.pointer (some ⟨G + 1, 0, none⟩))) rfl (by kernel_rfl) (by kernel_rfl) (by kernel_rfl) (fun _ _ _ h => h) (by cases c9 with | false => exact Or.inr ⟨by kernel_rfl, rfl⟩ | true => exact Or.inl ⟨by rfl, by intro w' h; simp only [gv_t]; go_simp; try rfl⟩) hHeld ?_
      try simp only [Act.put, List.setIfInBounds_toArray, List.set_cons_zero, List.set_cons_succ]
      refine takeL (i := 29) (v := gv c9 (.int .i64 At)) rfl (by kernel_rfl) (by kernel_rfl) (by kernel_rfl) (fun _ _ _ h => h) (by cases c9 with | false => exact Or.inr ⟨by kernel_rfl, rfl⟩ | true => exact Or.inl ⟨by rfl, by intro w' h; have h0 := h.c0; simp only [gv_t]; go_simp; try rfl⟩) hHeld ?_
      try simp only [Act.put, List.setIfInBounds_toArray, List.set_cons_zero, List.set_cons_succ]
      refine takeL (i := 30) (v := gv c9 (.bool (decide (0 ≤ At)))) rfl (by kernel_rfl) (by kernel_rfl) (by kernel_rfl) (fun _ _ _ h => h) (by cases c9 with | false => exact Or.inr ⟨by kernel_rfl, rfl⟩ | true => exact Or.inl ⟨by rfl, by intro w' h; simp only [gv_t]; go_simp; try rfl⟩) hHeld ?_
      try simp only [Act.put, List.setIfInBounds_toArray, List.set_cons_zero, List.set_cons_succ]
      refine takeL (i := 31) (v := .bool c10) rfl (by kernel_rfl) (by kernel_rfl) (by kernel_rfl) (fun _ _ _ h => h) (Or.inl ⟨by rfl, by intro w' h; rw [← HC10.out]; cases c9 <;> (simp only [gv_t, gv_f, Bool.true_and, Bool.false_and]; go_simp; try rfl)⟩) hHeld ?_
      try simp only [Act.put, List.setIfInBounds_toArray, List.set_cons_zero, List.set_cons_succ]
      refine takeL (i := 32) (v := .bool c10) rfl (by kernel_rfl) (by kernel_rfl) (by kernel_rfl) (fun _ _ _ h => h) (Or.inl ⟨by rfl, by intro w' h; go_simp; try rfl⟩) hHeld ?_
      try simp only [Act.put, List.setIfInBounds_toArray, List.set_cons_zero, List.set_cons_succ]
      refine takeL (i := 33) (v := gv c10 (.pointer (some ⟨G + 1, 2, none⟩))) rfl (by kernel_rfl) (by kernel_rfl) (by kernel_rfl) (fun _ _ _ h => h) (by cases c10 with | false => exact Or.inr ⟨by kernel_rfl, rfl⟩ | true => exact Or.inl ⟨by rfl, by intro w' h; simp only [gv_t]; go_simp; try rfl⟩) hHeld ?_
      try simp only [Act.put, List.setIfInBounds_toArray, List.set_cons_zero, List.set_cons_succ]
      refine takeL (i := 34) (v := gv c10 (.int .i64 To)) rfl (by kernel_rfl) (by kernel_rfl) (by kernel_rfl) (fun _ _ _ h => h) (by cases c10 with | false => exact Or.inr ⟨by kernel_rfl, rfl⟩ | true => exact Or.inl ⟨by rfl, by intro w' h; have h2 := h.c2; simp only [gv_t]; go_simp; try rfl⟩) hHeld ?_
      try simp only [Act.put, List.setIfInBounds_toArray, List.set_cons_zero, List.set_cons_succ]
      refine takeL (i := 35) (v := gv c10 (.bool (decide (0 ≤ To)))) rfl (by kernel_rfl) (by kernel_rfl) (by kernel_rfl) (fun _ _ _ h => h) (by cases c10 with | false => exact Or.inr ⟨by kernel_rfl, rfl⟩ | true => exact Or.inl ⟨by rfl, by intro w' h; simp only [gv_t]; go_simp; try rfl⟩) hHeld ?_
      try simp only [Act.put, List.setIfInBounds_toArray, List.set_cons_zero, List.set_cons_succ]
      refine takeL (i := 36) (v := .bool c11) rfl (by kernel_rfl) (by kernel_rfl) (by kernel_rfl) (fun _ _ _ h => h) (Or.inl ⟨by rfl, by intro w' h; rw [← HC11.out]; cases c10 <;> (simp only [gv_t, gv_f, Bool.true_and, Bool.false_and]; go_simp; try rfl)⟩) hHeld ?_
      try simp only [Act.put, List.setIfInBounds_toArray, List.set_cons_zero, List.set_cons_succ]
      refine wpAnyH_ready (rs := [37]) (by kernel_rfl) (by simp) ?_
      refine consL rfl (fun KK hKK => ?_) AllReadyH.nil
      refine step_store (by rfl) 59 _ _ (by rfl) G 0 #[.int .i64 At, .int .i64 (n4 : Int), .int .i64 To, .int .i64 (n8 : Int), .slice none 0 0] (by rfl) (by rfl) hHeld.t size59 (by kernel_rfl) ?_
      refine hKK.out _ _ ⟨World.rangeAt_setCells_apart hHeld.r G 0 _ (.inl (by omega)), World.there_setCells hHeld.t _ _ _, World.there_setCells hHeld.k _ _ _⟩ (fun hHeld2 => ?_)
      clear hKK KK
      try simp only [Act.put, List.setIfInBounds_toArray, List.set_cons_zero, List.set_cons_succ]
      refine takeL (i := 38) (v := .string S9) rfl (by kernel_rfl) (by kernel_rfl) (by kernel_rfl) (fun _ _ _ h => h) (Or.inl ⟨by rfl, by intro w' h; go_simp; try rfl⟩) hHeld2 ?_
      try simp only [Act.put, List.setIfInBounds_toArray, List.set_cons_zero, List.set_cons_succ]
      refine takeL (i := 39) (v := .bool c11) rfl (by kernel_rfl) (by kernel_rfl) (by kernel_rfl) (fun _ _ _ h => h) (Or.inl ⟨by rfl, by intro w' h; go_simp; try rfl⟩) hHeld2 ?_
      try simp only [Act.put, List.setIfInBounds_toArray, List.set_cons_zero, List.set_cons_succ]
      refine wpAnyH_done (by kernel_rfl) ?_ _
      have HRR := hid (World.rangeAt_setCells_same u0 G 0 [.int .i64 At, .int .i64 (n4 : Int), .int .i64 To, .int .i64 (n8 : Int), .slice none 0 0] hHeld.t)
      have HFB : Hid (Below G w (u0.setCells G 0 [.int .i64 At, .int .i64 (n4 : Int), .int .i64 To, .int .i64 (n8 : Int), .slice none 0 0])) := hid (below_setCells (Nat.le_refl _) _ _ _ _ HBD.out)
      clear hHeld hHeld2
      go_wp2_with fail
      refine bodyPost_ret (v := .tuple #[.agg #[.int .i64 At, .int .i64 (n4 : Int), .int .i64 To, .int .i64 (n8 : Int), .slice none 0 0], .string S9, .bool c11]) (results_c3 Tryz.results46 _ _ G _ _ rfl HRR.out Tryz.underlying59 rfl size59) rfl ?_
      exact ⟨HFB.out, rfl⟩
  · have h4i : ¬ (0 : Int) < (n4 : Int) := by omega
    have HAV : Hid ((n2 : Int) = At) := hid (by rw [← HAT.out]; unfold fst; rw [if_neg h4])
    obtain ⟨u2, HU2⟩ : ∃ u, Hid (u1 = u) := ⟨_, rfl⟩
    have HQ2 : Hid (BW (G + 1) G (.int .i64 (n2 : Int)) (.int .i64 (n4 : Int)) (.int .i64 (n6 : Int)) (.int .i64 (n8 : Int)) u2) := hid (by rw [← HU2.out]; exact HQ1.out)
    have HBX : Hid (Below G w u2) := hid (by rw [← HU2.out]; exact HBU.out)
    rw [HU2.out] at HU1
    by_cases h8 : 0 < n8
    · have h8i : (0 : Int) < (n8 : Int) := by omega
      have HTV : Hid ((n6 : Int) - 1 = To) := hid (by rw [← HTO.out]; unfold fst; rw [if_pos h8])
      have p0 := HQ2.out.c2
      have p1 := HQ2.out.f2
      obtain ⟨u3, HU3⟩ : ∃ u, Hid (u2.setCell ⟨G + 1, 2, none⟩ (.int .i64 ((n6 : Int) - 1)) = u) := ⟨_, rfl⟩
      have p2 : u2.setCell ⟨G + 1, 2, none⟩ (.int .i64 ((n6 : Int) - 1)) = u3 := HU3.out
      have HQ3 : Hid (BW (G + 1) G (.int .i64 At) (.int .i64 (n4 : Int)) (.int .i64 To) (.int .i64 (n8 : Int)) u3) := hid (by rw [← HU3.out, ← HAV.out, ← HTV.out]; exact HQ2.out.set2 _)
      have HBY : Hid (Below G w u3) := hid (by rw [← HU3.out]; exact HBX.out.setCell (p := ⟨G + 1, 2, none⟩) (Nat.le_succ _) _)
      have HSS : Hid (BW (G + 1) G (.int .i64 At) (.int .i64 (n4 : Int)) (.int .i64 To) (.int .i64 (n8 : Int)) u3.drew) := hid ⟨HQ3.out.r, HQ3.out.t, HQ3.out.k⟩
      have HBD : Hid (Below G w u3.drew) := hid (HBY.out.trans ⟨rfl, rfl, rfl, Nat.le_refl _, fun _ _ => rfl⟩)
      go_wp2_with (first
        | (refine wpList_store_mid rfl 59 _ _ rfl (G + 1) 0 #[.int .i64 (n2 : Int), .int .i64 (n4 : Int), .int .i64 (n6 : Int), .int .i64 (n8 : Int), .slice none 0 0] rfl rfl HT1.out HS5.out HO5.out ?_; rw [HU1.out])
        | fail)
      refine wp_region_held_drew (S := BW (G + 1) G (.int .i64 At) (.int .i64 (n4 : Int)) (.int .i64 To) (.int .i64 (n8 : Int))) (by kernel_rfl) HSS.out (fun hHeld => ?_)
      generalize u3.drew = u0 at hHeld HSS HBD ⊢
      clear HSS
      refine takeL (i := 0) (v := .agg #[.int .i64 At, .int .i64 (n4 : Int), .int .i64 To, .int .i64 (n8 : Int), .slice none 0 0]) rfl (by kernel_rfl) (by kernel_rfl) (by kernel_rfl) (fun _ _ _ h => h) (yieldsIf_load_mid (by rfl) 59 _ rfl (G + 1) 0 (by rfl) [.int .i64 At, .int .i64 (n4 : Int), .int .i64 To, .int .i64 (n8 : Int), .slice none 0 0] _ (fun w' h => h.r) Tryz.underlying59 rfl size59) hHeld ?_
      try simp only [Act.put, List.setIfInBounds_toArray, List.set_cons_zero, List.set_cons_succ]
      refine takeL (i := 1) (v := .string S9) rfl (by kernel_rfl) (by kernel_rfl) (by kernel_rfl) (fun _ _ _ h => h) (Or.inl ⟨by rfl, by intro w' h; go_simp; try rfl⟩) hHeld ?_
      try simp only [Act.put, List.setIfInBounds_toArray, List.set_cons_zero, List.set_cons_succ]
      refine takeL (i := 2) (v := .bool b1) rfl (by kernel_rfl) (by kernel_rfl) (by kernel_rfl) (fun _ _ _ h => h) (Or.inl ⟨by rfl, by intro w' h; go_simp; try rfl⟩) hHeld ?_
      try simp only [Act.put, List.setIfInBounds_toArray, List.set_cons_zero, List.set_cons_succ]
      refine takeL (i := 3) (v := .bool b1) rfl (by kernel_rfl) (by kernel_rfl) (by kernel_rfl) (fun _ _ _ h => h) (Or.inl ⟨by rfl, by intro w' h; go_simp; try rfl⟩) hHeld ?_
      try simp only [Act.put, List.setIfInBounds_toArray, List.set_cons_zero, List.set_cons_succ]
      refine takeL (i := 4) (v := gv b1 (.bool b2)) rfl (by kernel_rfl) (by kernel_rfl) (by kernel_rfl) (fun _ _ _ h => h) (by cases b1 with | false => exact Or.inr ⟨by kernel_rfl, rfl⟩ | true => exact Or.inl ⟨by rfl, by intro w' h; simp only [gv_t]; go_simp; try rfl⟩) hHeld ?_
      try simp only [Act.put, List.setIfInBounds_toArray, List.set_cons_zero, List.set_cons_succ]
      refine takeL (i := 5) (v := .bool c2) rfl (by kernel_rfl) (by kernel_rfl) (by kernel_rfl) (fun _ _ _ h => h) (Or.inl ⟨by rfl, by intro w' h; rw [← HC2.out]; cases b1 <;> (simp only [gv_t, gv_f, Bool.true_and, Bool.false_and]; go_simp; try rfl)⟩) hHeld ?_
      try simp only [Act.put, List.setIfInBounds_toArray, List.set_cons_zero, List.set_cons_succ]
      refine takeL (i := 6) (v := .bool c2) rfl (by kernel_rfl) (by kernel_rfl) (by kernel_rfl) (fun _ _ _ h => h) (Or.inl ⟨by rfl, by intro w' h; go_simp; try rfl⟩) hHeld ?_
      try simp only [Act.put, List.setIfInBounds_toArray, List.set_cons_zero, List.set_cons_succ]
      refine takeL (i := 7) (v := gv c2 (.bool b3)) rfl (by kernel_rfl) (by kernel_rfl) (by kernel_rfl) (fun _ _ _ h => h) (by cases c2 with | false => exact Or.inr ⟨by kernel_rfl, rfl⟩ | true => exact Or.inl ⟨by rfl, by intro w' h; simp only [gv_t]; go_simp; try rfl⟩) hHeld ?_
      try simp only [Act.put, List.setIfInBounds_toArray, List.set_cons_zero, List.set_cons_succ]
      refine takeL (i := 8) (v := .bool c3) rfl (by kernel_rfl) (by kernel_rfl) (by kernel_rfl) (fun _ _ _ h => h) (Or.inl ⟨by rfl, by intro w' h; rw [← HC3.out]; cases c2 <;> (simp only [gv_t, gv_f, Bool.true_and, Bool.false_and]; go_simp; try rfl)⟩) hHeld ?_
      try simp only [Act.put, List.setIfInBounds_toArray, List.set_cons_zero, List.set_cons_succ]
      refine takeL (i := 9) (v := .bool c3) rfl (by kernel_rfl) (by kernel_rfl) (by kernel_rfl) (fun _ _ _ h => h) (Or.inl ⟨by rfl, by intro w' h; go_simp; try rfl⟩) hHeld ?_
      try simp only [Act.put, List.setIfInBounds_toArray, List.set_cons_zero, List.set_cons_succ]
      refine takeL (i := 10) (v := gv c3 (.bool b4)) rfl (by kernel_rfl) (by kernel_rfl) (by kernel_rfl) (fun _ _ _ h => h) (by cases c3 with | false => exact Or.inr ⟨by kernel_rfl, rfl⟩ | true => exact Or.inl ⟨by rfl, by intro w' h; simp only [gv_t]; go_simp; try rfl⟩) hHeld ?_
      try simp only [Act.put, List.setIfInBounds_toArray, List.set_cons_zero, List.set_cons_succ]
      refine takeL (i := 11) (v := .bool c4) rfl (by kernel_rfl) (by kernel_rfl) (by kernel_rfl) (fun _ _ _ h => h) (Or.inl ⟨by rfl, by intro w' h; rw [← HC4.out]; cases c3 <;> (simp only [gv_t, gv_f, Bool.true_and, Bool.false_and]; go_simp; try rfl)⟩) hHeld ?_
      try simp only [Act.put, List.setIfInBounds_toArray, List.set_cons_zero, List.set_cons_succ]
      refine takeL (i := 12) (v := .bool c4) rfl (by kernel_rfl) (by kernel_rfl) (by kernel_rfl) (fun _ _ _ h => h) (Or.inl ⟨by rfl, by intro w' h; go_simp; try rfl⟩) hHeld ?_
      try simp only [Act.put, List.setIfInBounds_toArray, List.set_cons_zero, List.set_cons_succ]
      refine takeL (i := 13) (v := gv c4 (.bool b5)) rfl (by kernel_rfl) (by kernel_rfl) (by kernel_rfl) (fun _ _ _ h => h) (by cases c4 with | false => exact Or.inr ⟨by kernel_rfl, rfl⟩ | true => exact Or.inl ⟨by rfl, by intro w' h; simp only [gv_t]; go_simp; try rfl⟩) hHeld ?_
      try simp only [Act.put, List.setIfInBounds_toArray, List.set_cons_zero, List.set_cons_succ]
      refine takeL (i := 14) (v := .bool c5) rfl (by kernel_rfl) (by kernel_rfl) (by kernel_rfl) (fun _ _ _ h => h) (Or.inl ⟨by rfl, by intro w' h; rw [← HC5.out]; cases c4 <;> (simp only [gv_t, gv_f, Bool.true_and, Bool.false_and]; go_simp; try rfl)⟩) hHeld ?_
      try simp only [Act.put, List.setIfInBounds_toArray, List.set_cons_zero, List.set_cons_succ]
      refine takeL (i := 15) (v := .bool c5) rfl (by kernel_rfl) (by kernel_rfl) (by kernel_rfl) (fun _ _ _ h => h) (Or.inl ⟨by rfl, by intro w' h; go_simp; try rfl⟩) hHeld ?_
      try simp only [Act.put, List.setIfInBounds_toArray, List.set_cons_zero, List.set_cons_succ]
      refine takeL (i := 16) (v := gv c5 (.bool b6)) rfl (by kernel_rfl) (by kernel_rfl) (by kernel_rfl) (fun _ _ _ h => h) (by cases c5 with | false => exact Or.inr ⟨by kernel_rfl, rfl⟩ | true => exact Or.inl ⟨by rfl, by intro w' h; simp only [gv_t]; go_simp; try rfl⟩) hHeld ?_
      try simp only [Act.put, List.setIfInBounds_toArray, List.set_cons_zero, List.set_cons_succ]
      refine takeL (i := 17) (v := .bool c6) rfl (by kernel_rfl) (by kernel_rfl) (by kernel_rfl) (fun _ _ _ h => h) (Or.inl ⟨by rfl, by intro w' h; rw [← HC6.out]; cases c5 <;> (simp only [gv_t, gv_f, Bool.true_and, Bool.false_and]; go_simp; try rfl)⟩) hHeld ?_
      try simp only [Act.put, List.setIfInBounds_toArray, List.set_cons_zero, List.set_cons_succ]
      refine takeL (i := 18) (v := .bool c6) rfl (by kernel_rfl) (by kernel_rfl) (by kernel_rfl) (fun _ _ _ h => h) (Or.inl ⟨by rfl, by intro w' h; go_simp; try rfl⟩) hHeld ?_
      try simp only [Act.put, List.setIfInBounds_toArray, List.set_cons_zero, List.set_cons_succ]
      refine takeL (i := 19) (v := gv c6 (.bool b7)) rfl (by kernel_rfl) (by kernel_rfl) (by kernel_rfl) (fun _ _ _ h => h) (by cases c6 with | false => exact Or.inr ⟨by kernel_rfl, rfl⟩ | true => exact Or.inl ⟨by rfl, by intro w' h; simp only [gv_t]; go_simp; try rfl⟩) hHeld ?_
      try simp only [Act.put, List.setIfInBounds_toArray, List.set_cons_zero, List.set_cons_succ]
      refine takeL (i := 20) (v := .bool c7) rfl (by kernel_rfl) (by kernel_rfl) (by kernel_rfl) (fun _ _ _ h => h) (Or.inl ⟨by rfl, by intro w' h; rw [← HC7.out]; cases c6 <;> (simp only [gv_t, gv_f, Bool.true_and, Bool.false_and]; go_simp; try rfl)⟩) hHeld ?_
      try simp only [Act.put, List.setIfInBounds_toArray, List.set_cons_zero, List.set_cons_succ]
      refine takeL (i := 21) (v := .bool c7) rfl (by kernel_rfl) (by kernel_rfl) (by kernel_rfl) (fun _ _ _ h => h) (Or.inl ⟨by rfl, by intro w' h; go_simp; try rfl⟩) hHeld ?_
      try simp only [Act.put, List.setIfInBounds_toArray, List.set_cons_zero, List.set_cons_succ]
      refine takeL (i := 22) (v := gv c7 (.bool b8)) rfl (by kernel_rfl) (by kernel_rfl) (by kernel_rfl) (fun _ _ _ h => h) (by cases c7 with | false => exact Or.inr ⟨by kernel_rfl, rfl⟩ | true => exact Or.inl ⟨by rfl, by intro w' h; simp only [gv_t]; go_simp; try rfl⟩) hHeld ?_
      try simp only [Act.put, List.setIfInBounds_toArray, List.set_cons_zero, List.set_cons_succ]
      refine takeL (i := 23) (v := .bool c8) rfl (by kernel_rfl) (by kernel_rfl) (by kernel_rfl) (fun _ _ _ h => h) (Or.inl ⟨by rfl, by intro w' h; rw [← HC8.out]; cases c7 <;> (simp only [gv_t, gv_f, Bool.true_and, Bool.false_and]; go_simp; try rfl)⟩) hHeld ?_
      try simp only [Act.put, List.setIfInBounds_toArray, List.set_cons_zero, List.set_cons_succ]
      refine takeL (i := 24) (v := .bool c8) rfl (by kernel_rfl) (by kernel_rfl) (by kernel_rfl) (fun _ _ _ h => h) (Or.inl ⟨by rfl, by intro w' h; go_simp; try rfl⟩) hHeld ?_
      try simp only [Act.put, List.setIfInBounds_toArray, List.set_cons_zero, List.set_cons_succ]
      refine takeL (i := 25) (v := gv c8 (.bool b9)) rfl (by kernel_rfl) (by kernel_rfl) (by kernel_rfl) (fun _ _ _ h => h) (by cases c8 with | false => exact Or.inr ⟨by kernel_rfl, rfl⟩ | true => exact Or.inl ⟨by rfl, by intro w' h; simp only [gv_t]; go_simp; try rfl⟩) hHeld ?_
      try simp only [Act.put, List.setIfInBounds_toArray, List.set_cons_zero, List.set_cons_succ]
      refine takeL (i := 26) (v := .bool c9) rfl (by kernel_rfl) (by kernel_rfl) (by kernel_rfl) (fun _ _ _ h => h) (Or.inl ⟨by rfl, by intro w' h; rw [← HC9.out]; cases c8 <;> (simp only [gv_t, gv_f, Bool.true_and, Bool.false_and]; go_simp; try rfl)⟩) hHeld ?_
      try simp only [Act.put, List.setIfInBounds_toArray, List.set_cons_zero, List.set_cons_succ]
      refine takeL (i := 27) (v := .bool c9) rfl (by kernel_rfl) (by kernel_rfl) (by kernel_rfl) (fun _ _ _ h => h) (Or.inl ⟨by rfl, by intro w' h; go_simp; try rfl⟩) hHeld ?_
      try simp only [Act.put, List.setIfInBounds_toArray, List.set_cons_zero, List.set_cons_succ]
      refine takeL (i := 28) (v := gv c9 (.pointer (some ⟨G + 1, 0, none⟩))) rfl (by kernel_rfl) (by kernel_rfl) (by kernel_rfl) (fun _ _ _ h => h) (by cases c9 with | false => exact Or.inr ⟨by kernel_rfl, rfl⟩ | true => exact Or.inl ⟨by rfl, by intro w' h; simp only [gv_t]; go_simp; try rfl⟩) hHeld ?_
      try simp only [Act.put, List.setIfInBounds_toArray, List.set_cons_zero, List.set_cons_succ]
      refine takeL (i := 29) (v := gv c9 (.int .i64 At)) rfl (by kernel_rfl) (by kernel_rfl) (by kernel_rfl) (fun _ _ _ h => h) (by cases c9 with | false => exact Or.inr ⟨by kernel_rfl, rfl⟩ | true => exact Or.inl ⟨by rfl, by intro w' h; have h0 := h.c0; simp only [gv_t]; go_simp; try rfl⟩) hHeld ?_
      try simp only [Act.put, List.setIfInBounds_toArray, List.set_cons_zero, List.set_cons_succ]
      refine takeL (i := 30) (v := gv c9 (.bool (decide (0 ≤ At)))) rfl (by kernel_rfl) (by kernel_rfl) (by kernel_rfl) (fun _ _ _ h => h) (by cases c9 with | false => exact Or.inr ⟨by kernel_rfl, rfl⟩ | true => exact Or.inl ⟨by rfl, by intro w' h; simp only [gv_t]; go_simp; try rfl⟩) hHeld ?_
      try simp only [Act.put, List.setIfInBounds_toArray, List.set_cons_zero, List.set_cons_succ]
      refine takeL (i := 31) (v := .bool c10) rfl (by kernel_rfl) (by kernel_rfl) (by kernel_rfl) (fun _ _ _ h => h) (Or.inl ⟨by rfl, by intro w' h; rw [← HC10.out]; cases c9 <;> (simp only [gv_t, gv_f, Bool.true_and, Bool.false_and]; go_simp; try rfl)⟩) hHeld ?_
      try simp only [Act.put, List.setIfInBounds_toArray, List.set_cons_zero, List.set_cons_succ]
      refine takeL (i := 32) (v := .bool c10) rfl (by kernel_rfl) (by kernel_rfl) (by kernel_rfl) (fun _ _ _ h => h) (Or.inl ⟨by rfl, by intro w' h; go_simp; try rfl⟩) hHeld ?_
      try simp only [Act.put, List.setIfInBounds_toArray, List.set_cons_zero, List.set_cons_succ]
      refine takeL (i := 33) (v := gv c10 (.pointer (some ⟨G + 1, 2, none⟩))) rfl (by kernel_rfl) (by kernel_rfl) (by kernel_rfl) (fun _ _ _ h => h) (by cases c10 with | false => exact Or.inr ⟨by kernel_rfl, rfl⟩ | true => exact Or.inl ⟨by rfl, by intro w' h; simp only [gv_t]; go_simp; try rfl⟩) hHeld ?_
      try simp only [Act.put, List.setIfInBounds_toArray, List.set_cons_zero, List.set_cons_succ]
      refine takeL (i := 34) (v := gv c10 (.int .i64 To)) rfl (by kernel_rfl) (by kernel_rfl) (by kernel_rfl) (fun _ _ _ h => h) (by cases c10 with | false => exact Or.inr ⟨by kernel_rfl, rfl⟩ | true => exact Or.inl ⟨by rfl, by intro w' h; have h2 := h.c2; simp only [gv_t]; go_simp; try rfl⟩) hHeld ?_
      try simp only [Act.put, List.setIfInBounds_toArray, List.set_cons_zero, List.set_cons_succ]
      refine takeL (i := 35) (v := gv c10 (.bool (decide (0 ≤ To)))) rfl (by kernel_rfl) (by kernel_rfl) (by kernel_rfl) (fun _ _ _ h => h) (by cases c10 with | false => exact Or.inr ⟨by kernel_rfl, rfl⟩ | true => exact Or.inl ⟨by rfl, by intro w' h; simp only [gv_t]; go_simp; try rfl⟩) hHeld ?_
      try simp only [Act.put, List.setIfInBounds_toArray, List.set_cons_zero, List.set_cons_succ]
      refine takeL (i := 36) (v := .bool c11) rfl (by kernel_rfl) (by kernel_rfl) (by kernel_rfl) (fun _ _ _ h => h) (Or.inl ⟨by rfl, by intro w' h; rw [← HC11.out]; cases c10 <;> (simp only [gv_t, gv_f, Bool.true_and, Bool.false_and]; go_simp; try rfl)⟩) hHeld ?_
      try simp only [Act.put, List.setIfInBounds_toArray, List.set_cons_zero, List.set_cons_succ]
      refine wpAnyH_ready (rs := [37]) (by kernel_rfl) (by simp) ?_
      refine consL rfl (fun KK hKK => ?_) AllReadyH.nil
      refine step_store (by rfl) 59 _ _ (by rfl) G 0 #[.int .i64 At, .int .i64 (n4 : Int), .int .i64 To, .int .i64 (n8 : Int), .slice none 0 0] (by rfl) (by rfl) hHeld.t size59 (by kernel_rfl) ?_
      refine hKK.out _ _ ⟨World.rangeAt_setCells_apart hHeld.r G 0 _ (.inl (by omega)), World.there_setCells hHeld.t _ _ _, World.there_setCells hHeld.k _ _ _⟩ (fun hHeld2 => ?_)
      clear hKK KK
      try simp only [Act.put, List.setIfInBounds_toArray, List.set_cons_zero, List.set_cons_succ]
      refine takeL (i := 38) (v := .string S9) rfl (by kernel_rfl) (by kernel_rfl) (by kernel_rfl) (fun _ _ _ h => h) (Or.inl ⟨by rfl, by intro w' h; go_simp; try rfl⟩) hHeld2 ?_
      try simp only [Act.put, List.setIfInBounds_toArray, List.set_cons_zero, List.set_cons_succ]
      refine takeL (i := 39) (v := .bool c11) rfl (by kernel_rfl) (by kernel_rfl) (by kernel_rfl) (fun _ _ _ h => h) (Or.inl ⟨by rfl, by intro w' h; go_simp; try rfl⟩) hHeld2 ?_
      try simp only [Act.put, List.setIfInBounds_toArray, List.set_cons_zero, List.set_cons_succ]
      refine wpAnyH_done (by kernel_rfl) ?_ _
      have HRR := hid (World.rangeAt_setCells_same u0 G 0 [.int .i64 At, .int .i64 (n4 : Int), .int .i64 To, .int .i64 (n8 : Int), .slice none 0 0] hHeld.t)
      have HFB : Hid (Below G w (u0.setCells G 0 [.int .i64 At, .int .i64 (n4 : Int), .int .i64 To, .int .i64 (n8 : Int), .slice none 0 0])) := hid (below_setCells (Nat.le_refl _) _ _ _ _ HBD.out)
      clear hHeld hHeld2
      go_wp2_with fail
      refine bodyPost_ret (v := .tuple #[.agg #[.int .i64 At, .int .i64 (n4 : Int), .int .i64 To, .int .i64 (n8 : Int), .slice none 0 0], .string S9, .bool c11]) (results_c3 Tryz.results46 _ _ G _ _ rfl HRR.out Tryz.underlying59 rfl size59) rfl ?_
      exact ⟨HFB.out, rfl⟩
    · have h8i : ¬ (0 : Int) < (n8 : Int) := by omega
      have HTV : Hid ((n6 : Int) = To) := hid (by rw [← HTO.out]; unfold fst; rw [if_neg h8])
      have HQ3 : Hid (BW (G + 1) G (.int .i64 At) (.int .i64 (n4 : Int)) (.int .i64 To) (.int .i64 (n8 : Int)) u2) := hid (by rw [← HAV.out, ← HTV.out]; exact HQ2.out)
      have HBY := HBX
      have HSS : Hid (BW (G + 1) G (.int .i64 At) (.int .i64 (n4 : Int)) (.int .i64 To) (.int .i64 (n8 : Int)) u2.drew) := hid ⟨HQ3.out.r, HQ3.out.t, HQ3.out.k⟩
      have HBD : Hid (Below G w u2.drew) := hid (HBY.out.trans ⟨rfl, rfl, rfl, Nat.le_refl _, fun _ _ => rfl⟩)
      go_wp2_with (first
        | (refine wpList_store_mid rfl 59 _ _ rfl (G + 1) 0 #[.int .i64 (n2 : Int), .int .i64 (n4 : Int), .int .i64 (n6 : Int), .int .i64 (n8 : Int), .slice none 0 0] rfl rfl HT1.out HS5.out HO5.out ?_; rw [HU1.out])
        | fail)
      refine wp_region_held_drew (S := BW (G + 1) G (.int .i64 At) (.int .i64 (n4 : Int)) (.int .i64 To) (.int .i64 (n8 : Int))) (by kernel_rfl) HSS.out (fun hHeld => ?_)
      generalize u2.drew = u0 at hHeld HSS HBD ⊢
      clear HSS
      refine takeL (i := 0) (v := .agg #[.int .i64 At, .int .i64 (n4 : Int), .int .i64 To, .int .i64 (n8 : Int), .slice none 0 0]) rfl (by kernel_rfl) (by kernel_rfl) (by kernel_rfl) (fun _ _ _ h => h) (yieldsIf_load_mid (by rfl) 59 _ rfl (G + 1) 0 (by rfl) [.int .i64 At, .int .i64 (n4 : Int), .int .i64 To, .int .i64 (n8 : Int), .slice none 0 0] _ (fun w' h => h.r) Tryz.underlying59 rfl size59) hHeld ?_
      try simp only [Act.put, List.setIfInBounds_toArray, List.set_cons_zero, List.set_cons_succ]
      refine takeL (i := 1) (v := .string S9) rfl (by kernel_rfl) (by kernel_rfl) (by kernel_rfl) (fun _ _ _ h => h) (Or.inl ⟨by rfl, by intro w' h; go_simp; try rfl⟩) hHeld ?_
      try simp only [Act.put, List.setIfInBounds_toArray, List.set_cons_zero, List.set_cons_succ]
      refine takeL (i := 2) (v := .bool b1) rfl (by kernel_rfl) (by kernel_rfl) (by kernel_rfl) (fun _ _ _ h => h) (Or.inl ⟨by rfl, by intro w' h; go_simp; try rfl⟩) hHeld ?_
      try simp only [Act.put, List.setIfInBounds_toArray, List.set_cons_zero, List.set_cons_succ]
      refine takeL (i := 3) (v := .bool b1) rfl (by kernel_rfl) (by kernel_rfl) (by kernel_rfl) (fun _ _ _ h => h) (Or.inl ⟨by rfl, by intro w' h; go_simp; try rfl⟩) hHeld ?_
      try simp only [Act.put, List.setIfInBounds_toArray, List.set_cons_zero, List.set_cons_succ]
      refine takeL (i := 4) (v := gv b1 (.bool b2)) rfl (by kernel_rfl) (by kernel_rfl) (by kernel_rfl) (fun _ _ _ h => h) (by cases b1 with | false => exact Or.inr ⟨by kernel_rfl, rfl⟩ | true => exact Or.inl ⟨by rfl, by intro w' h; simp only [gv_t]; go_simp; try rfl⟩) hHeld ?_
      try simp only [Act.put, List.setIfInBounds_toArray, List.set_cons_zero, List.set_cons_succ]
      refine takeL (i := 5) (v := .bool c2) rfl (by kernel_rfl) (by kernel_rfl) (by kernel_rfl) (fun _ _ _ h => h) (Or.inl ⟨by rfl, by intro w' h; rw [← HC2.out]; cases b1 <;> (simp only [gv_t, gv_f, Bool.true_and, Bool.false_and]; go_simp; try rfl)⟩) hHeld ?_
      try simp only [Act.put, List.setIfInBounds_toArray, List.set_cons_zero, List.set_cons_succ]
      refine takeL (i := 6) (v := .bool c2) rfl (by kernel_rfl) (by kernel_rfl) (by kernel_rfl) (fun _ _ _ h => h) (Or.inl ⟨by rfl, by intro w' h; go_simp; try rfl⟩) hHeld ?_
      try simp only [Act.put, List.setIfInBounds_toArray, List.set_cons_zero, List.set_cons_succ]
      refine takeL (i := 7) (v := gv c2 (.bool b3)) rfl (by kernel_rfl) (by kernel_rfl) (by kernel_rfl) (fun _ _ _ h => h) (by cases c2 with | false => exact Or.inr ⟨by kernel_rfl, rfl⟩ | true => exact Or.inl ⟨by rfl, by intro w' h; simp only [gv_t]; go_simp; try rfl⟩) hHeld ?_
      try simp only [Act.put, List.setIfInBounds_toArray, List.set_cons_zero, List.set_cons_succ]
      refine takeL (i := 8) (v := .bool c3) rfl (by kernel_rfl) (by kernel_rfl) (by kernel_rfl) (fun _ _ _ h => h) (Or.inl ⟨by rfl, by intro w' h; rw [← HC3.out]; cases c2 <;> (simp only [gv_t, gv_f, Bool.true_and, Bool.false_and]; go_simp; try rfl)⟩) hHeld ?_
      try simp only [Act.put, List.setIfInBounds_toArray, List.set_cons_zero, List.set_cons_succ]
      refine takeL (i := 9) (v := .bool c3) rfl (by kernel_rfl) (by kernel_rfl) (by kernel_rfl) (fun _ _ _ h => h) (Or.inl ⟨by rfl, by intro w' h; go_simp; try rfl⟩) hHeld ?_
      try simp only [Act.put, List.setIfInBounds_toArray, List.set_cons_zero, List.set_cons_succ]
      refine takeL (i := 10) (v := gv c3 (.bool b4)) rfl (by kernel_rfl) (by kernel_rfl) (by kernel_rfl) (fun _ _ _ h => h) (by cases c3 with | false => exact Or.inr ⟨by kernel_rfl, rfl⟩ | true => exact Or.inl ⟨by rfl, by intro w' h; simp only [gv_t]; go_simp; try rfl⟩) hHeld ?_
      try simp only [Act.put, List.setIfInBounds_toArray, List.set_cons_zero, List.set_cons_succ]
      refine takeL (i := 11) (v := .bool c4) rfl (by kernel_rfl) (by kernel_rfl) (by kernel_rfl) (fun _ _ _ h => h) (Or.inl ⟨by rfl, by intro w' h; rw [← HC4.out]; cases c3 <;> (simp only [gv_t, gv_f, Bool.true_and, Bool.false_and]; go_simp; try rfl)⟩) hHeld ?_
      try simp only [Act.put, List.setIfInBounds_toArray, List.set_cons_zero, List.set_cons_succ]
      refine takeL (i := 12) (v := .bool c4) rfl (by kernel_rfl) (by kernel_rfl) (by kernel_rfl) (fun _ _ _ h => h) (Or.inl ⟨by rfl, by intro w' h; go_simp; try rfl⟩) hHeld ?_
      try simp only [Act.put, List.setIfInBounds_toArray, List.set_cons_zero, List.set_cons_succ]
      refine takeL (i := 13) (v := gv c4 (.bool b5)) rfl (by kernel_rfl) (by kernel_rfl) (by kernel_rfl) (fun _ _ _ h => h) (by cases c4 with | false => exact Or.inr ⟨by kernel_rfl, rfl⟩ | true => exact Or.inl ⟨by rfl, by intro w' h; simp only [gv_t]; go_simp; try rfl⟩) hHeld ?_
      try simp only [Act.put, List.setIfInBounds_toArray, List.set_cons_zero, List.set_cons_succ]
      refine takeL (i := 14) (v := .bool c5) rfl (by kernel_rfl) (by kernel_rfl) (by kernel_rfl) (fun _ _ _ h => h) (Or.inl ⟨by rfl, by intro w' h; rw [← HC5.out]; cases c4 <;> (simp only [gv_t, gv_f, Bool.true_and, Bool.false_and]; go_simp; try rfl)⟩) hHeld ?_
      try simp only [Act.put, List.setIfInBounds_toArray, List.set_cons_zero, List.set_cons_succ]
      refine takeL (i := 15) (v := .bool c5) rfl (by kernel_rfl) (by kernel_rfl) (by kernel_rfl) (fun _ _ _ h => h) (Or.inl ⟨by rfl, by intro w' h; go_simp; try rfl⟩) hHeld ?_
      try simp only [Act.put, List.setIfInBounds_toArray, List.set_cons_zero, List.set_cons_succ]
      refine takeL (i := 16) (v := gv c5 (.bool b6)) rfl (by kernel_rfl) (by kernel_rfl) (by kernel_rfl) (fun _ _ _ h => h) (by cases c5 with | false => exact Or.inr ⟨by kernel_rfl, rfl⟩ | true => exact Or.inl ⟨by rfl, by intro w' h; simp only [gv_t]; go_simp; try rfl⟩) hHeld ?_
      try simp only [Act.put, List.setIfInBounds_toArray, List.set_cons_zero, List.set_cons_succ]
      refine takeL (i := 17) (v := .bool c6) rfl (by kernel_rfl) (by kernel_rfl) (by kernel_rfl) (fun _ _ _ h => h) (Or.inl ⟨by rfl, by intro w' h; rw [← HC6.out]; cases c5 <;> (simp only [gv_t, gv_f, Bool.true_and, Bool.false_and]; go_simp; try rfl)⟩) hHeld ?_
      try simp only [Act.put, List.setIfInBounds_toArray, List.set_cons_zero, List.set_cons_succ]
      refine takeL (i := 18) (v := .bool c6) rfl (by kernel_rfl) (by kernel_rfl) (by kernel_rfl) (fun _ _ _ h => h) (Or.inl ⟨by rfl, by intro w' h; go_simp; try rfl⟩) hHeld ?_
      try simp only [Act.put, List.setIfInBounds_toArray, List.set_cons_zero, List.set_cons_succ]
      refine takeL (i := 19) (v := gv c6 (.bool b7)) rfl (by kernel_rfl) (by kernel_rfl) (by kernel_rfl) (fun _ _ _ h => h) (by cases c6 with | false => exact Or.inr ⟨by kernel_rfl, rfl⟩ | true => exact Or.inl ⟨by rfl, by intro w' h; simp only [gv_t]; go_simp; try rfl⟩) hHeld ?_
      try simp only [Act.put, List.setIfInBounds_toArray, List.set_cons_zero, List.set_cons_succ]
      refine takeL (i := 20) (v := .bool c7) rfl (by kernel_rfl) (by kernel_rfl) (by kernel_rfl) (fun _ _ _ h => h) (Or.inl ⟨by rfl, by intro w' h; rw [← HC7.out]; cases c6 <;> (simp only [gv_t, gv_f, Bool.true_and, Bool.false_and]; go_simp; try rfl)⟩) hHeld ?_
      try simp only [Act.put, List.setIfInBounds_toArray, List.set_cons_zero, List.set_cons_succ]
      refine takeL (i := 21) (v := .bool c7) rfl (by kernel_rfl) (by kernel_rfl) (by kernel_rfl) (fun _ _ _ h => h) (Or.inl ⟨by rfl, by intro w' h; go_simp; try rfl⟩) hHeld ?_
      try simp only [Act.put, List.setIfInBounds_toArray, List.set_cons_zero, List.set_cons_succ]
      refine takeL (i := 22) (v := gv c7 (.bool b8)) rfl (by kernel_rfl) (by kernel_rfl) (by kernel_rfl) (fun _ _ _ h => h) (by cases c7 with | false => exact Or.inr ⟨by kernel_rfl, rfl⟩ | true => exact Or.inl ⟨by rfl, by intro w' h; simp only [gv_t]; go_simp; try rfl⟩) hHeld ?_
      try simp only [Act.put, List.setIfInBounds_toArray, List.set_cons_zero, List.set_cons_succ]
      refine takeL (i := 23) (v := .bool c8) rfl (by kernel_rfl) (by kernel_rfl) (by kernel_rfl) (fun _ _ _ h => h) (Or.inl ⟨by rfl, by intro w' h; rw [← HC8.out]; cases c7 <;> (simp only [gv_t, gv_f, Bool.true_and, Bool.false_and]; go_simp; try rfl)⟩) hHeld ?_
      try simp only [Act.put, List.setIfInBounds_toArray, List.set_cons_zero, List.set_cons_succ]
      refine takeL (i := 24) (v := .bool c8) rfl (by kernel_rfl) (by kernel_rfl) (by kernel_rfl) (fun _ _ _ h => h) (Or.inl ⟨by rfl, by intro w' h; go_simp; try rfl⟩) hHeld ?_
      try simp only [Act.put, List.setIfInBounds_toArray, List.set_cons_zero, List.set_cons_succ]
      refine takeL (i := 25) (v := gv c8 (.bool b9)) rfl (by kernel_rfl) (by kernel_rfl) (by kernel_rfl) (fun _ _ _ h => h) (by cases c8 with | false => exact Or.inr ⟨by kernel_rfl, rfl⟩ | true => exact Or.inl ⟨by rfl, by intro w' h; simp only [gv_t]; go_simp; try rfl⟩) hHeld ?_
      try simp only [Act.put, List.setIfInBounds_toArray, List.set_cons_zero, List.set_cons_succ]
      refine takeL (i := 26) (v := .bool c9) rfl (by kernel_rfl) (by kernel_rfl) (by kernel_rfl) (fun _ _ _ h => h) (Or.inl ⟨by rfl, by intro w' h; rw [← HC9.out]; cases c8 <;> (simp only [gv_t, gv_f, Bool.true_and, Bool.false_and]; go_simp; try rfl)⟩) hHeld ?_
      try simp only [Act.put, List.setIfInBounds_toArray, List.set_cons_zero, List.set_cons_succ]
      refine takeL (i := 27) (v := .bool c9) rfl (by kernel_rfl) (by kernel_rfl) (by kernel_rfl) (fun _ _ _ h => h) (Or.inl ⟨by rfl, by intro w' h; go_simp; try rfl⟩) hHeld ?_
      try simp only [Act.put, List.setIfInBounds_toArray, List.set_cons_zero, List.set_cons_succ]
      refine takeL (i := 28) (v := gv c9 (.pointer (some ⟨G + 1, 0, none⟩))) rfl (by kernel_rfl) (by kernel_rfl) (by kernel_rfl) (fun _ _ _ h => h) (by cases c9 with | false => exact Or.inr ⟨by kernel_rfl, rfl⟩ | true => exact Or.inl ⟨by rfl, by intro w' h; simp only [gv_t]; go_simp; try rfl⟩) hHeld ?_
      try simp only [Act.put, List.setIfInBounds_toArray, List.set_cons_zero, List.set_cons_succ]
      refine takeL (i := 29) (v := gv c9 (.int .i64 At)) rfl (by kernel_rfl) (by kernel_rfl) (by kernel_rfl) (fun _ _ _ h => h) (by cases c9 with | false => exact Or.inr ⟨by kernel_rfl, rfl⟩ | true => exact Or.inl ⟨by rfl, by intro w' h; have h0 := h.c0; simp only [gv_t]; go_simp; try rfl⟩) hHeld ?_
      try simp only [Act.put, List.setIfInBounds_toArray, List.set_cons_zero, List.set_cons_succ]
      refine takeL (i := 30) (v := gv c9 (.bool (decide (0 ≤ At)))) rfl (by kernel_rfl) (by kernel_rfl) (by kernel_rfl) (fun _ _ _ h => h) (by cases c9 with | false => exact Or.inr ⟨by kernel_rfl, rfl⟩ | true => exact Or.inl ⟨by rfl, by intro w' h; simp only [gv_t]; go_simp; try rfl⟩) hHeld ?_
      try simp only [Act.put, List.setIfInBounds_toArray, List.set_cons_zero, List.set_cons_succ]
      refine takeL (i := 31) (v := .bool c10) rfl (by kernel_rfl) (by kernel_rfl) (by kernel_rfl) (fun _ _ _ h => h) (Or.inl ⟨by rfl, by intro w' h; rw [← HC10.out]; cases c9 <;> (simp only [gv_t, gv_f, Bool.true_and, Bool.false_and]; go_simp; try rfl)⟩) hHeld ?_
      try simp only [Act.put, List.setIfInBounds_toArray, List.set_cons_zero, List.set_cons_succ]
      refine takeL (i := 32) (v := .bool c10) rfl (by kernel_rfl) (by kernel_rfl) (by kernel_rfl) (fun _ _ _ h => h) (Or.inl ⟨by rfl, by intro w' h; go_simp; try rfl⟩) hHeld ?_
      try simp only [Act.put, List.setIfInBounds_toArray, List.set_cons_zero, List.set_cons_succ]
      refine takeL (i := 33) (v := gv c10 (.pointer (some ⟨G + 1, 2, none⟩))) rfl (by kernel_rfl) (by kernel_rfl) (by kernel_rfl) (fun _ _ _ h => h) (by cases c10 with | false => exact Or.inr ⟨by kernel_rfl, rfl⟩ | true => exact Or.inl ⟨by rfl, by intro w' h; simp only [gv_t]; go_simp; try rfl⟩) hHeld ?_
      try simp only [Act.put, List.setIfInBounds_toArray, List.set_cons_zero, List.set_cons_succ]
      refine takeL (i := 34) (v := gv c10 (.int .i64 To)) rfl (by kernel_rfl) (by kernel_rfl) (by kernel_rfl) (fun _ _ _ h => h) (by cases c10 with | false => exact Or.inr ⟨by kernel_rfl, rfl⟩ | true => exact Or.inl ⟨by rfl, by intro w' h; have h2 := h.c2; simp only [gv_t]; go_simp; try rfl⟩) hHeld ?_
      try simp only [Act.put, List.setIfInBounds_toArray, List.set_cons_zero, List.set_cons_succ]
      refine takeL (i := 35) (v := gv c10 (.bool (decide (0 ≤ To)))) rfl (by kernel_rfl) (by kernel_rfl) (by kernel_rfl) (fun _ _ _ h => h) (by cases c10 with | false => exact Or.inr ⟨by kernel_rfl, rfl⟩ | true => exact Or.inl ⟨by rfl, by intro w' h; simp only [gv_t]; go_simp; try rfl⟩) hHeld ?_
      try simp only [Act.put, List.setIfInBounds_toArray, List.set_cons_zero, List.set_cons_succ]
      refine takeL (i := 36) (v := .bool c11) rfl (by kernel_rfl) (by kernel_rfl) (by kernel_rfl) (fun _ _ _ h => h) (Or.inl ⟨by rfl, by intro w' h; rw [← HC11.out]; cases c10 <;> (simp only [gv_t, gv_f, Bool.true_and, Bool.false_and]; go_simp; try rfl)⟩) hHeld ?_
      try simp only [Act.put, List.setIfInBounds_toArray, List.set_cons_zero, List.set_cons_succ]
      refine wpAnyH_ready (rs := [37]) (by kernel_rfl) (by simp) ?_
      refine consL rfl (fun KK hKK => ?_) AllReadyH.nil
      refine step_store (by rfl) 59 _ _ (by rfl) G 0 #[.int .i64 At, .int .i64 (n4 : Int), .int .i64 To, .int .i64 (n8 : Int), .slice none 0 0] (by rfl) (by rfl) hHeld.t size59 (by kernel_rfl) ?_
      refine hKK.out _ _ ⟨World.rangeAt_setCells_apart hHeld.r G 0 _ (.inl (by omega)), World.there_setCells hHeld.t _ _ _, World.there_setCells hHeld.k _ _ _⟩ (fun hHeld2 => ?_)
      clear hKK KK
      try simp only [Act.put, List.setIfInBounds_toArray, List.set_cons_zero, List.set_cons_succ]
      refine takeL (i := 38) (v := .string S9) rfl (by kernel_rfl) (by kernel_rfl) (by kernel_rfl) (fun _ _ _ h => h) (Or.inl ⟨by rfl, by intro w' h; go_simp; try rfl⟩) hHeld2 ?_
      try simp only [Act.put, List.setIfInBounds_toArray, List.set_cons_zero, List.set_cons_succ]
      refine takeL (i := 39) (v := .bool c11) rfl (by kernel_rfl) (by kernel_rfl) (by kernel_rfl) (fun _ _ _ h => h) (Or.inl ⟨by rfl, by intro w' h; go_simp; try rfl⟩) hHeld2 ?_
      try simp only [Act.put, List.setIfInBounds_toArray, List.set_cons_zero, List.set_cons_succ]
      refine wpAnyH_done (by kernel_rfl) ?_ _
      have HRR := hid (World.rangeAt_setCells_same u0 G 0 [.int .i64 At, .int .i64 (n4 : Int), .int .i64 To, .int .i64 (n8 : Int), .slice none 0 0] hHeld.t)
      have HFB : Hid (Below G w (u0.setCells G 0 [.int .i64 At, .int .i64 (n4 : Int), .int .i64 To, .int .i64 (n8 : Int), .slice none 0 0])) := hid (below_setCells (Nat.le_refl _) _ _ _ _ HBD.out)
      clear hHeld hHeld2
      go_wp2_with fail
      refine bodyPost_ret (v := .tuple #[.agg #[.int .i64 At, .int .i64 (n4 : Int), .int .i64 To, .int .i64 (n8 : Int), .slice none 0 0], .string S9, .bool c11]) (results_c3 Tryz.results46 _ _ G _ _ rfl HRR.out Tryz.underlying59 rfl size59) rfl ?_
      exact ⟨HFB.out, rfl⟩
end Go.Proofs.YtmpjapcijjjlbaaGreatDoor
