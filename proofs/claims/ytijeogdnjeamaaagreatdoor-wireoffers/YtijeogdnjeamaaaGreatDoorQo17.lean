import Derived.Test.YtijeogdnjeamaaaGreatDoorQo16
import Derived.Test.YtijeogdnjeamaaaGreatDoorQo13
namespace Go.Proofs.YtijeogdnjeamaaaGreatDoor
open Go.RowKit
set_option linter.unusedVariables false
set_option linter.unusedSimpArgs false
theorem prf_at {W : World} {a : Option Addr} {cap : Nat} {l : List Rf} (h : PRf W a cap l) {b off : Nat} (ha : a = some ⟨b, off, none⟩) (i : Nat) (hi : i < l.length) (x : Rf) (hx : l.getD i rf0 = x) (X : ByteArray) (hX : ⟨x.1.toArray⟩ = X) (O : List Value) (hO : row .u8 x.2 = O) : W.cell? ⟨b, off + i * 21, none⟩ = some (.string X) ∧ W.rangeAt b (off + i * 21 + 1) O := by
  obtain ⟨b', off', e1, _, e3⟩ := h.at_ (by omega)
  rw [ha] at e1
  cases e1
  have h1 := e3 i hi
  rw [hx] at h1
  obtain ⟨q0, q1⟩ := range_rf h1
  rw [sV_out, hX] at q0
  rw [hO] at q1
  exact ⟨q0, q1⟩
theorem Bx2.put2 {W : World} {B : Nat} {t : TypeId} {u v : Value} (h : Bx2 W B t u v) (x y : Value) : Bx2 (W.setCells B 0 (#[x, y] : Array Value).toList) B t x y := by
  have h1 := (h.set0 x).set1 y
  have e : W.setCells B 0 (#[x, y] : Array Value).toList = (W.setCell ⟨B, 0, none⟩ x).setCell ⟨B, 1, none⟩ y := rfl
  rw [e]
  exact h1
structure S8 (w wr : World) (G G1 G2 : Nat) (X : ByteArray) (u v : Value) (l : List Rf) : Prop where
  l1 : G < G1
  l2 : G1 < G2
  bl : Below G w wr
  ba : Bx2 wr G 24 (.string X) u
  b0 : Bx2 wr G1 32 (.string ⟨#[]⟩) (.slice none 0 0)
  b1 : Bx2 wr G2 32 (.string X) v
  own : wr.ownsRow (G2 + 1) 76 22 v l.length (l.flatMap encR2)
  le : G2 + 1 ≤ wr.heap.size
theorem S8.below {w wr w' : World} {G G1 G2 : Nat} {X : ByteArray} {u v : Value} {l : List Rf} (h : S8 w wr G G1 G2 X u v l) (hb : Below wr.heap.size wr w') : S8 w w' G G1 G2 X u v l := by
  have := h.le
  have := h.l1
  have := h.l2
  exact ⟨h.l1, h.l2, h.bl.trans (hb.mono (by omega)), h.ba.below hb, h.b0.below hb, h.b1.below hb, own_keep h.own (grown_of_below hb none) (fun j e => by cases e), Nat.le_trans h.le hb.size⟩
theorem S8.refs {w wr : World} {G G1 G2 : Nat} {X : ByteArray} {u v v' : Value} {l l' : List Rf} (h : S8 w wr G G1 G2 X u v l) {wr' : World} (hg0 : wr.grownBy wr' v.ownBlock) (ho : wr'.ownsRow (G2 + 1) 76 22 v' l'.length (l'.flatMap encR2)) : S8 w (wr'.setCell ⟨G2, 1, none⟩ v') G G1 G2 X u v' l' ∧ Bx2 wr' G2 32 (.string X) v ∧ Below G w wr' ∧ Bx2 wr' G 24 (.string X) u := by
  have hj : ∀ j, v.ownBlock = some j → G2 + 1 ≤ j := fun j e => (own_lt h.own j e).1
  have h1 := h.le
  have h2 := hg0.size
  have e1 := h.l1
  have e2 := h.l2
  have hb1 : Bx2 wr' G2 32 (.string X) v := h.b1.kept hg0 (fun e => by have := hj _ e.symm; omega)
  have hb0 : Bx2 wr' G1 32 (.string ⟨#[]⟩) (.slice none 0 0) := h.b0.kept hg0 (fun e => by have := hj _ e.symm; omega)
  have hba : Bx2 wr' G 24 (.string X) u := h.ba.kept hg0 (fun e => by have := hj _ e.symm; omega)
  have hbl : Below G w wr' := h.bl.grown hg0 (by omega) (fun k e => by have := hj _ e; omega)
  have hg := grown_set1 wr' G2 1 v'
  have h3 := hg.size
  exact ⟨⟨e1, e2, hbl.grown hg (by omega) (fun k e => by cases e; omega), hba.kept hg (fun e => by cases e; omega), hb0.kept hg (fun e => by cases e; omega), hb1.set1 _, own_keep ho hg (fun j e => by cases e; omega), by omega⟩, hb1, hbl, hba⟩
structure Q8 (G b o : Nat) (u : Value) (X : ByteArray) (O : List Value) (W : World) : Prop where
  c0 : W.cell? ⟨G, 1, none⟩ = some u
  c1 : W.cell? ⟨b, o, none⟩ = some (.string X)
  r1 : W.rangeAt b (o + 1) O
theorem Tryz.results8 : Tryz.f8.results = #[.cell 2 32] := by kernel_rfl
theorem run_b32h (X : ByteArray) (w : World) : (Instr.build 32 #[(0, .string X)]).run Tryz.prog w = .ok (.agg #[.string X, .slice none 0 0]) w := by kernel_rfl
set_option maxRecDepth 20000 in
set_option maxHeartbeats 4000000 in
theorem offerL_any {w : World} (h : Str) (a : Option Addr) (cap : Nat) (l : List Rf) (hP : PRf w a cap l) (hf : FitR l) (hn : l.length ≤ 10000) :
    Calls Tryz.prog 8 #[.agg #[.string ⟨h.toArray⟩, .slice a l.length cap]] w fun e w' => ∃ a2 c2, e = .returned (.agg #[.string ⟨h.toArray⟩, .slice a2 l.length c2]) ∧ BRd w w' w.heap.size (.slice a2 l.length c2) l := by
  obtain ⟨n, HN⟩ : ∃ n, Hid (l.length = n) := ⟨_, rfl⟩
  obtain ⟨G, HG⟩ : ∃ n, Hid (w.heap.size = n) := ⟨_, rfl⟩
  obtain ⟨X, HX⟩ : ∃ X : ByteArray, Hid (⟨h.toArray⟩ = X) := ⟨_, hid rfl⟩
  have hn6 : n ≤ 10000 := by rw [← HN.out]; exact hn
  obtain ⟨w1, HW1⟩ : ∃ u, Hid (w.alloc (.cells #[.string X, .slice a n cap] 24) = u) := ⟨_, rfl⟩
  obtain ⟨G1, HG1⟩ : ∃ n, Hid (w1.heap.size = n) := ⟨_, rfl⟩
  obtain ⟨w2, HW2⟩ : ∃ u, Hid (w1.alloc (.cells #[.string ⟨#[]⟩, .slice none 0 0] 32) = u) := ⟨_, rfl⟩
  obtain ⟨G2, HG2⟩ : ∃ n, Hid (w2.heap.size = n) := ⟨_, rfl⟩
  obtain ⟨w3, HW3⟩ : ∃ u, Hid (w2.alloc (.cells #[.string ⟨#[]⟩, .slice none 0 0] 32) = u) := ⟨_, rfl⟩
  have e1 : G1 = G + 1 := by rw [← HG1.out, ← HW1.out, ← HG.out]; exact size_alloc _ _
  have e2 : G2 = G1 + 1 := by rw [← HG2.out, ← HW2.out, ← HG1.out]; exact size_alloc _ _
  have e3 : w3.heap.size = G2 + 1 := by rw [← HW3.out, ← HG2.out]; exact size_alloc _ _
  have hb1 : Below G w w1 := by rw [← HW1.out, ← HG.out]; exact (Below.refl _ w).alloc (Nat.le_refl _) _
  have hb12 : Below w1.heap.size w1 w2 := by rw [← HW2.out]; exact (Below.refl _ w1).alloc (Nat.le_refl _) _
  have hb23 : Below w2.heap.size w2 w3 := by rw [← HW3.out]; exact (Below.refl _ w2).alloc (Nat.le_refl _) _
  have hx1 : Bx2 w1 G 24 (.string X) (.slice a n cap) := by rw [← HW1.out, ← HG.out]; exact Bx2.new _ _ _ _
  have hx2 : Bx2 w2 G1 32 (.string ⟨#[]⟩) (.slice none 0 0) := by rw [← HW2.out, ← HG1.out]; exact Bx2.new _ _ _ _
  have hx3 : Bx2 w3 G2 32 (.string ⟨#[]⟩) (.slice none 0 0) := by rw [← HW3.out, ← HG2.out]; exact Bx2.new _ _ _ _
  have k0 : w2.cell? ⟨G, 0, none⟩ = some (.string X) := (hx1.below hb12).c0
  obtain ⟨w4, hw4, ht4, hg4, _⟩ := hx3.put (.string X) (.slice none 0 0)
  have hx4 : Bx2 w4 G2 32 (.string X) (.slice none 0 0) := by rw [← hw4]; exact hx3.put2 _ _
  have S0 : Hid (S8 w w4 G G1 G2 X (.slice a n cap) (.slice none 0 0) (l.take 0)) := hid (by
    have h4 := hg4.size
    have hbw3 : Below G w w3 := (hb1.trans (hb12.mono (by rw [HG1.out]; omega))).trans (hb23.mono (by rw [HG2.out]; omega))
    exact ⟨by omega, by omega, hbw3.grown hg4 (by omega) (fun k e => by cases e; omega), ((hx1.below hb12).below hb23).kept hg4 (fun e => by cases e; omega), (hx2.below hb23).kept hg4 (fun e => by cases e; omega), hx4, ⟨rfl, .inl ⟨rfl, rfl⟩⟩, by omega⟩)
  have HW4 := hid hw4
  have T1 := hid ht4
  have T2 : Hid ((Tryz.prog.info? 32).map (·.size) = some (#[.string X, .slice none 0 0] : Array Value).size) := hid size32
  have T3 : Hid ((#[.string X, .slice none 0 0] : Array Value).all (·.oneCell') = true) := hid (by simp [Value.oneCell'])
  have HPP : Hid (∀ X, Below G w X → PRf X a cap l) := hid (fun X hX => hP.below (by rw [HG.out]; exact hX))
  have HPL : Hid (0 < n → ∃ b off, a = some ⟨b, off, none⟩ ∧ b < G) := hid (fun h => by
    obtain ⟨b, off, e1, e2, _⟩ := hP.at_ (by rw [HN.out]; exact h)
    exact ⟨b, off, e1, by rw [← HG.out]; exact e2⟩)
  have HFI := hid hf
  obtain ⟨d, hd1, hd2⟩ := und32
  have HD1 := hid hd1
  have HD2 := hid hd2
  have al1 : w.alloc (.cells #[.string X, .slice a n cap] 24) = w1 := HW1.out
  have al2 : w1.alloc (.cells #[.string ⟨#[]⟩, .slice none 0 0] 32) = w2 := HW2.out
  have al3 : w2.alloc (.cells #[.string ⟨#[]⟩, .slice none 0 0] 32) = w3 := HW3.out
  have hs0 : w.heap.size = G := HG.out
  have hs1 : w1.heap.size = G1 := HG1.out
  have hs2 : w2.heap.size = G2 := HG2.out
  have hbz : ∀ W : World, (Instr.build 32 #[(0, .string X)]).run Tryz.prog W = .ok (.agg #[.string X, .slice none 0 0]) W := fun W => run_b32h X W
  rw [HN.out, HX.out, HG.out]
  clear hP hf hn hb1 hb12 hb23 hx1 hx2 hx3 hw4 ht4 hg4 hx4 e1 e2 e3 hd1 hd2
  go_enter Tryz.func8, Tryz.ntmps8
  go_wp2_with (first
    | (refine wpList_store_mid rfl 32 _ _ rfl G2 0 #[.string X, .slice none 0 0] rfl rfl T1.out T2.out T3.out ?_; rw [HW4.out])
    | fail)
  clear al1 al2 al3 hs0 hs1 hs2 k0
  go_loopg [4] n (fun gg iv wr => ∃ (i : Nat) (v : Value), i ≤ n ∧ gg = n - i ∧ iv = .int .i64 i ∧ Hid (S8 w wr G G1 G2 X (.slice a n cap) v (l.take i)))
  case atStart => exact ⟨0, .slice none 0 0, Nat.zero_le _, rfl, rfl, S0⟩
  case round =>
    obtain ⟨i, v, hi, hkk, rfl, HS⟩ := hrel
    have k1 : wr.cell? ⟨G, 1, none⟩ = some (.slice a n cap) := HS.out.ba.c1
    by_cases hlt : i < n
    · have hlti : (i : Int) < (n : Int) := by omega
      obtain ⟨b, off, e1, hbG⟩ := HPL.out (by omega)
      have hil : i < l.length := by rw [HN.out]; exact hlt
      obtain ⟨x, HXX⟩ : ∃ x, Hid (l.getD i rf0 = x) := ⟨_, rfl⟩
      have hxf := HFI.out x (by rw [← HXX.out]; exact getD_mem l i _ hil)
      obtain ⟨nm, xo⟩ := x
      simp only at hxf
      obtain ⟨Y, HYB⟩ : ∃ X : ByteArray, Hid (⟨nm.toArray⟩ = X) := ⟨_, hid rfl⟩
      obtain ⟨O, HO⟩ : ∃ S : List Value, Hid (row .u8 xo = S) := ⟨_, rfl⟩
      obtain ⟨V, HV⟩ : ∃ R : List Value, Hid (encR2 (nm, xo) = R) := ⟨_, rfl⟩
      have hiO : (Tryz.prog.info? 68).map (·.size) = some O.length := by rw [← HO.out, row_len, hxf.2.1]; exact size68
      have HDB : Hid (Below wr.heap.size wr wr.drew) := hid ⟨rfl, rfl, rfl, Nat.le_refl _, fun _ _ => rfl⟩
      have HSd : Hid (S8 w wr.drew G G1 G2 X (.slice a n cap) v (l.take i)) := hid (HS.out.below HDB.out)
      have HQW : Hid (∀ W, Below G w W → Bx2 W G 24 (.string X) (.slice a n cap) → Q8 G b (off + i * 21) (.slice a n cap) Y O W) := hid (fun W hW hB => by
        obtain ⟨q0, q1⟩ := prf_at (HPP.out W hW) e1 i hil _ HXX.out Y HYB.out O HO.out
        exact ⟨hB.c1, q0, q1⟩)
      have HTX : Hid (l.take (i + 1) = l.take i ++ [(nm, xo)]) := hid (by rw [take_snocG rf0 l i hil, HXX.out])
      have hbd : ∀ W : World, (Instr.build 76 #[(0, .string Y), (1, .agg O.toArray)]).run Tryz.prog W = .ok (.agg V.toArray) W := fun W => by
        rw [← HV.out, ← HYB.out, ← HO.out]
        exact run_b76 nm xo hxf.2.1 W
      have HXW := hid hxf.2
      have HI8 : Hid (IdR [(nm, xo)]) := hid (fun y hy => by rw [List.mem_singleton.1 hy]; exact hxf.2)
      have HIT : Hid (IdR (l.take i)) := hid (fun y hy => (HFI.out y (List.mem_of_mem_take hy)).2)
      have HTL : Hid ((l.take i).length ≤ 10000) := hid (by rw [List.length_take]; omega)
      have HQN := hid (HQW.out _ HSd.out.bl HSd.out.ba)
      have HBG := hid hbG
      subst e1
      clear hil hxf hbG
      go_wp2_with fail
      clear k1
      refine wp_region_held_drew (S := Q8 G b (off + i * 21) (.slice (some ⟨b, off, none⟩) n cap) Y O) (by kernel_rfl) HQN.out (fun hHeld => ?_)
      generalize wr.drew = u0 at hHeld HSd HQN HDB ⊢
      refine takeL (i := 0) (v := ?_) rfl (by kernel_rfl) (by kernel_rfl) (by kernel_rfl) (fun _ _ _ h => h) (Or.inl ⟨by rfl, ?_⟩) hHeld ?_
      rotate_left
      · rintro w' ⟨c0, c1, r1⟩; go_simp; rfl
      try simp only [Act.put, List.setIfInBounds_toArray, List.set_cons_zero, List.set_cons_succ]
      refine takeL (i := 2) (v := ?_) rfl (by kernel_rfl) (by kernel_rfl) (by kernel_rfl) (fun _ _ _ h => h) (Or.inl ⟨by rfl, ?_⟩) hHeld ?_
      rotate_left
      · rintro w' ⟨c0, c1, r1⟩; go_simp; rfl
      try simp only [Act.put, List.setIfInBounds_toArray, List.set_cons_zero, List.set_cons_succ]
      refine takeL (i := 3) (v := ?_) rfl (by kernel_rfl) (by kernel_rfl) (by kernel_rfl) (fun _ _ _ h => h) (Or.inl ⟨by rfl, ?_⟩) hHeld ?_
      rotate_left
      · rintro w' ⟨c0, c1, r1⟩; go_simp; rfl
      try simp only [Act.put, List.setIfInBounds_toArray, List.set_cons_zero, List.set_cons_succ]
      refine takeL (i := 4) (v := ?_) rfl (by kernel_rfl) (by kernel_rfl) (by kernel_rfl) (fun _ _ _ h => h) (Or.inl ⟨by rfl, ?_⟩) hHeld ?_
      rotate_left
      · rintro w' ⟨c0, c1, r1⟩; go_simp; rfl
      try simp only [Act.put, List.setIfInBounds_toArray, List.set_cons_zero, List.set_cons_succ]
      refine takeL (i := 5) (v := ?_) rfl (by kernel_rfl) (by kernel_rfl) (by kernel_rfl) (fun _ _ _ h => h) (Or.inl ⟨by rfl, ?_⟩) hHeld ?_
      rotate_left
      · rintro w' ⟨c0, c1, r1⟩; go_simp; rfl
      try simp only [Act.put, List.setIfInBounds_toArray, List.set_cons_zero, List.set_cons_succ]
      refine takeL (i := 6) (v := ?_) rfl (by kernel_rfl) (by kernel_rfl) (by kernel_rfl) (fun _ _ _ h => h) (Or.inl ⟨by rfl, ?_⟩) hHeld ?_
      rotate_left
      · rintro w' ⟨c0, c1, r1⟩; go_simp; rfl
      try simp only [Act.put, List.setIfInBounds_toArray, List.set_cons_zero, List.set_cons_succ]
      refine takeL (i := 7) (v := ?_) rfl (by kernel_rfl) (by kernel_rfl) (by kernel_rfl) (fun _ _ _ h => h) (Or.inl ⟨by rfl, ?_⟩) hHeld ?_
      rotate_left
      · rintro w' ⟨c0, c1, r1⟩; go_simp; rfl
      try simp only [Act.put, List.setIfInBounds_toArray, List.set_cons_zero, List.set_cons_succ]
      refine takeL (i := 8) (v := ?_) rfl (by kernel_rfl) (by kernel_rfl) (by kernel_rfl) (fun _ _ _ h => h) (Or.inl ⟨by rfl, ?_⟩) hHeld ?_
      rotate_left
      · rintro w' ⟨c0, c1, r1⟩; go_simp; rfl
      try simp only [Act.put, List.setIfInBounds_toArray, List.set_cons_zero, List.set_cons_succ]
      refine takeL (i := 9) (v := ?_) rfl (by kernel_rfl) (by kernel_rfl) (by kernel_rfl) (fun _ _ _ h => h) (Or.inl ⟨by rfl, ?_⟩) hHeld ?_
      rotate_left
      · rintro w' ⟨c0, c1, r1⟩; go_simp; rfl
      try simp only [Act.put, List.setIfInBounds_toArray, List.set_cons_zero, List.set_cons_succ]
      refine takeL (i := 10) (v := ?_) rfl (by kernel_rfl) (by kernel_rfl) (by kernel_rfl) (fun _ _ _ h => h) (Or.inl ⟨by rfl, ?_⟩) hHeld ?_
      rotate_left
      · rintro w' ⟨c0, c1, r1⟩; go_simp; rfl
      try simp only [Act.put, List.setIfInBounds_toArray, List.set_cons_zero, List.set_cons_succ]
      refine takeL (i := 11) (v := ?_) rfl (by kernel_rfl) (by kernel_rfl) (by kernel_rfl) (fun _ _ _ h => h) (Or.inl ⟨by rfl, ?_⟩) hHeld ?_
      rotate_left
      · rintro w' ⟨c0, c1, r1⟩; go_simp; rfl
      try simp only [Act.put, List.setIfInBounds_toArray, List.set_cons_zero, List.set_cons_succ]
      refine takeL (i := 12) (v := ?_) rfl (by kernel_rfl) (by kernel_rfl) (by kernel_rfl) (fun _ _ _ h => h) (Or.inl ⟨by rfl, ?_⟩) hHeld ?_
      rotate_left
      · rintro w' ⟨c0, c1, r1⟩; go_simp; rfl
      try simp only [Act.put, List.setIfInBounds_toArray, List.set_cons_zero, List.set_cons_succ]
      refine takeL (i := 13) (v := .agg O.toArray) rfl (by kernel_rfl) (by kernel_rfl) (by kernel_rfl) (fun _ _ _ h => h) (yieldsIf_load_mid (by kernel_rfl) 68 _ rfl b (off + i * 21 + 1) (by rfl) O _ (fun w' h => h.r1) Tryz.underlying68 rfl hiO) hHeld ?_
      try simp only [Act.put, List.setIfInBounds_toArray, List.set_cons_zero, List.set_cons_succ]
      refine takeL (i := 14) (v := .agg V.toArray) rfl (by kernel_rfl) (by kernel_rfl) (by kernel_rfl) (fun _ _ _ h => h) (Or.inl ⟨by rfl, ?_⟩) hHeld ?_
      · rintro w' ⟨c0, c1, r1⟩; exact exec_bd2 76 (.tmp 22) (.tmp 28) (by rfl) _ _ _ (by rfl) (by rfl) (hbd w')
      try simp only [Act.put, List.setIfInBounds_toArray, List.set_cons_zero, List.set_cons_succ]
      obtain ⟨u1, HU1⟩ : ∃ u, Hid (u0.alloc (.cells V.toArray 76) = u) := ⟨_, rfl⟩
      obtain ⟨K, HKK⟩ : ∃ u, Hid (u0.heap.size = u) := ⟨_, rfl⟩
      have HB01 : Hid (Below u0.heap.size u0 u1) := hid (by rw [← HU1.out]; exact (Below.refl _ _).alloc (Nat.le_refl _) _)
      have HS1 : Hid (S8 w u1 G G1 G2 X (.slice (some ⟨b, off, none⟩) n cap) v (l.take i)) := hid (HSd.out.below HB01.out)
      have HP8 : Hid (PRd u1 (some ⟨K, 0, none⟩) 1 [(nm, xo)]) := hid (by
        rw [← HU1.out, ← HKK.out, ← HV.out]
        exact prd_one u0 (nm, xo) 76)
      have hbs : (Instr.buildSlice 30 1 #[(0, .agg V.toArray)]).run Tryz.prog u0 = .ok (.slice (some ⟨K, 0, none⟩) 1 1) u1 := by
        rw [← HU1.out, ← HKK.out, ← HV.out]
        exact run_b30 (nm, xo) HXW.out u0
      have c40 : u0.cell? ⟨G2, 1, none⟩ = some v := HSd.out.b1.c1
      have c41 : u1.cell? ⟨G2, 1, none⟩ = some v := HS1.out.b1.c1
      refine wpAnyH_ready (rs := [1, 15]) (by kernel_rfl) (by simp) ?_
      refine consL rfl (fun KK hKK => ?_) (consL rfl (fun KK hKK => ?_) AllReadyH.nil)
      · refine step_exec (by rfl) v (w' := u0) (by go_simp; try rfl) ?_
        refine hKK.out _ _ (HQW.out _ HSd.out.bl HSd.out.ba) (fun _ => ?_)
        clear hKK KK
        try simp only [Act.put, List.setIfInBounds_toArray, List.set_cons_zero, List.set_cons_succ]
        refine wpAnyH_ready (rs := [15]) (by kernel_rfl) (by simp) ?_
        refine consL rfl (fun KK hKK => ?_) AllReadyH.nil
        refine step_exec (by rfl) (.slice (some ⟨K, 0, none⟩) 1 1) (w' := u1) (exec_bS1 30 1 (.tmp 29) (by rfl) _ _ (by rfl) hbs) ?_
        refine hKK.out _ _ (HQW.out _ HS1.out.bl HS1.out.ba) (fun _ => ?_)
        clear hKK KK hbs
        try simp only [Act.put, List.setIfInBounds_toArray, List.set_cons_zero, List.set_cons_succ]
        refine wpAnyH_ready (rs := [16]) (by kernel_rfl) (by simp) ?_
        refine consL rfl (fun KK hKK => ?_) AllReadyH.nil
        refine step_app30 (w0 := u1) (by rfl) (.tmp 16) (.tmp 30) (by rfl) (G2 + 1) v (l.take i) (by rfl) ⟨Below.refl _ _, HS1.out.own, HS1.out.le⟩ (some ⟨K, 0, none⟩) 1 [(nm, xo)] (by rfl) HP8.out HI8.out (by have := HTL.out; simp only [List.length_cons, List.length_nil]; omega) ?_
        intro v9 u9 hb9 hg9
        obtain ⟨ax9, cx9, rfl, _⟩ := hb9.px (d := rf0) (encR2_ln (fun y hy => by
            rcases List.mem_append.1 hy with hy | hy
            · exact HIT.out y hy
            · exact HI8.out y hy))
        obtain ⟨n9, HN9⟩ : ∃ n, Hid ((l.take i ++ [(nm, xo)]).length = n) := ⟨_, rfl⟩
        rw [HN9.out] at hb9
        rw [HN9.out]
        obtain ⟨hs9, hbx9, hbl9, hba9⟩ := HS1.out.refs (v' := .slice ax9 n9 cx9) (l' := l.take i ++ [(nm, xo)]) hg9 hb9.own
        have hHeld2 := HQW.out _ hbl9 hba9
        have ho9 : (Value.slice ax9 n9 cx9).oneCell' = true := rfl
        obtain ⟨u10, HU10⟩ : ∃ u, Hid (u9.setCell ⟨G2, 1, none⟩ (.slice ax9 n9 cx9) = u) := ⟨_, rfl⟩
        have hst9 := hbx9.st1 (.slice ax9 n9 cx9) ho9
        have hc9 := hbx9.c1
        have hf9 := hbx9.f1
        rw [HU10.out] at hst9
        have HS10 : Hid (S8 w u10 G G1 G2 X (.slice (some ⟨b, off, none⟩) n cap) (.slice ax9 n9 cx9) (l.take (i + 1))) := hid (by
          rw [HTX.out, ← HU10.out]
          exact hs9)
        have hHeld3 := HQW.out _ HS10.out.bl HS10.out.ba
        clear hb9 hs9 hbx9 hg9 hbl9 hba9
        refine hKK.out _ _ hHeld2 (fun _ => ?_)
        clear hKK KK hHeld
        try simp only [Act.put, List.setIfInBounds_toArray, List.set_cons_zero, List.set_cons_succ]
        refine takeL (i := 17) (v := ?_) rfl (by kernel_rfl) (by kernel_rfl) (by kernel_rfl) (fun _ _ _ h => h) (Or.inl ⟨by rfl, ?_⟩) hHeld2 ?_
        rotate_left
        · rintro w' ⟨c0, c1, r1⟩; go_simp; rfl
        try simp only [Act.put, List.setIfInBounds_toArray, List.set_cons_zero, List.set_cons_succ]
        refine wpAnyH_ready (rs := [18]) (by kernel_rfl) (by simp) ?_
        refine consL rfl (fun KK hKK => ?_) AllReadyH.nil
        refine step_skip (by rfl) (w' := u10) (by go_simp; exact HU10.out) ?_
        refine hKK.out _ _ hHeld3 (fun _ => ?_)
        clear hKK KK hHeld2
        try simp only [Act.put, List.setIfInBounds_toArray, List.set_cons_zero, List.set_cons_succ]
        refine wpAnyH_done (by kernel_rfl) ?_ _
        clear hHeld3
        go_wp2
        go_roundg (n - (i + 1))
        case measure => omega
        case rel => exact ⟨i + 1, .slice ax9 n9 cx9, by omega, rfl, by go_num, HS10⟩
      · refine step_exec (by rfl) (.slice (some ⟨K, 0, none⟩) 1 1) (w' := u1) (exec_bS1 30 1 (.tmp 29) (by rfl) _ _ (by rfl) hbs) ?_
        refine hKK.out _ _ (HQW.out _ HS1.out.bl HS1.out.ba) (fun _ => ?_)
        clear hKK KK hbs
        try simp only [Act.put, List.setIfInBounds_toArray, List.set_cons_zero, List.set_cons_succ]
        refine wpAnyH_ready (rs := [1]) (by kernel_rfl) (by simp) ?_
        refine consL rfl (fun KK hKK => ?_) AllReadyH.nil
        refine step_exec (by rfl) v (w' := u1) (by go_simp; try rfl) ?_
        refine hKK.out _ _ (HQW.out _ HS1.out.bl HS1.out.ba) (fun _ => ?_)
        clear hKK KK
        try simp only [Act.put, List.setIfInBounds_toArray, List.set_cons_zero, List.set_cons_succ]
        refine wpAnyH_ready (rs := [16]) (by kernel_rfl) (by simp) ?_
        refine consL rfl (fun KK hKK => ?_) AllReadyH.nil
        refine step_app30 (w0 := u1) (by rfl) (.tmp 16) (.tmp 30) (by rfl) (G2 + 1) v (l.take i) (by rfl) ⟨Below.refl _ _, HS1.out.own, HS1.out.le⟩ (some ⟨K, 0, none⟩) 1 [(nm, xo)] (by rfl) HP8.out HI8.out (by have := HTL.out; simp only [List.length_cons, List.length_nil]; omega) ?_
        intro v9 u9 hb9 hg9
        obtain ⟨ax9, cx9, rfl, _⟩ := hb9.px (d := rf0) (encR2_ln (fun y hy => by
            rcases List.mem_append.1 hy with hy | hy
            · exact HIT.out y hy
            · exact HI8.out y hy))
        obtain ⟨n9, HN9⟩ : ∃ n, Hid ((l.take i ++ [(nm, xo)]).length = n) := ⟨_, rfl⟩
        rw [HN9.out] at hb9
        rw [HN9.out]
        obtain ⟨hs9, hbx9, hbl9, hba9⟩ := HS1.out.refs (v' := .slice ax9 n9 cx9) (l' := l.take i ++ [(nm, xo)]) hg9 hb9.own
        have hHeld2 := HQW.out _ hbl9 hba9
        have ho9 : (Value.slice ax9 n9 cx9).oneCell' = true := rfl
        obtain ⟨u10, HU10⟩ : ∃ u, Hid (u9.setCell ⟨G2, 1, none⟩ (.slice ax9 n9 cx9) = u) := ⟨_, rfl⟩
        have hst9 := hbx9.st1 (.slice ax9 n9 cx9) ho9
        have hc9 := hbx9.c1
        have hf9 := hbx9.f1
        rw [HU10.out] at hst9
        have HS10 : Hid (S8 w u10 G G1 G2 X (.slice (some ⟨b, off, none⟩) n cap) (.slice ax9 n9 cx9) (l.take (i + 1))) := hid (by
          rw [HTX.out, ← HU10.out]
          exact hs9)
        have hHeld3 := HQW.out _ HS10.out.bl HS10.out.ba
        clear hb9 hs9 hbx9 hg9 hbl9 hba9
        refine hKK.out _ _ hHeld2 (fun _ => ?_)
        clear hKK KK hHeld
        try simp only [Act.put, List.setIfInBounds_toArray, List.set_cons_zero, List.set_cons_succ]
        refine takeL (i := 17) (v := ?_) rfl (by kernel_rfl) (by kernel_rfl) (by kernel_rfl) (fun _ _ _ h => h) (Or.inl ⟨by rfl, ?_⟩) hHeld2 ?_
        rotate_left
        · rintro w' ⟨c0, c1, r1⟩; go_simp; rfl
        try simp only [Act.put, List.setIfInBounds_toArray, List.set_cons_zero, List.set_cons_succ]
        refine wpAnyH_ready (rs := [18]) (by kernel_rfl) (by simp) ?_
        refine consL rfl (fun KK hKK => ?_) AllReadyH.nil
        refine step_skip (by rfl) (w' := u10) (by go_simp; exact HU10.out) ?_
        refine hKK.out _ _ hHeld3 (fun _ => ?_)
        clear hKK KK hHeld2
        try simp only [Act.put, List.setIfInBounds_toArray, List.set_cons_zero, List.set_cons_succ]
        refine wpAnyH_done (by kernel_rfl) ?_ _
        clear hHeld3
        go_wp2
        go_roundg (n - (i + 1))
        case measure => omega
        case rel => exact ⟨i + 1, .slice ax9 n9 cx9, by omega, rfl, by go_num, HS10⟩
    · have hlti : ¬ (i : Int) < (n : Int) := by omega
      have HS3 : Hid (S8 w wr G G1 G2 X (.slice a n cap) v l) := hid (by
        have h := HS.out
        rw [List.take_of_length_le (by rw [HN.out]; omega)] at h
        exact h)
      have hbx : BRd wr wr (G2 + 1) v l := ⟨Below.refl _ _, HS3.out.own, HS3.out.le⟩
      obtain ⟨a1, c1, rfl, hp1, hpl1, _⟩ := hbx.px (d := rf0) (encR2_ln HFI.out.ids)
      rw [HN.out] at HS3 HS
      have R0 : Hid (wr.rangeAt G2 0 [.string X, .slice a1 n c1]) := hid (range_row HS3.out.b1)
      obtain ⟨w9, y1, y2, y3, y4⟩ := HS3.out.b0.put (.string X) (.slice a1 n c1)
      have Y1 := hid y1
      have Y2 := hid y2
      have Y4 := hid y4
      have U2 : Hid ((Tryz.prog.info? 32).map (·.size) = some (#[.string X, .slice a1 n c1] : Array Value).size) := hid size32
      have U3 : Hid ((#[.string X, .slice a1 n c1] : Array Value).all (·.oneCell') = true) := hid (by simp [Value.oneCell'])
      have F : Hid (BRd w w9 G (.slice a1 n c1) l) := hid (by
        have h1 := HS3.out.le
        have h2 := y3.size
        have h3 := HS3.out.l1
        have h4 := HS3.out.l2
        exact ⟨HS3.out.bl.grown y3 (by omega) (fun k e => by cases e; omega), base_mono (own_keep HS3.out.own y3 (fun j e => by cases e; omega)) (by omega), by omega⟩)
      clear hbx hp1 hpl1 y1 y2 y3 y4
      go_wp2_with (first
        | (refine wpList_load_mid rfl 32 _ rfl G2 0 rfl [.string X, .slice a1 n c1] _ R0.out HD1.out HD2.out size32 ?_)
        | (refine wpList_store_mid rfl 32 _ _ rfl G1 0 #[.string X, .slice a1 n c1] rfl rfl Y2.out U2.out U3.out ?_; rw [Y1.out])
        | fail)
      refine bodyPost_ret (results_cell Tryz.results8 _ _ G1 [.string X, .slice a1 n c1] _ rfl Y4.out HD1.out HD2.out size32) rfl ?_
      exact ⟨a1, c1, rfl, F.out⟩
end Go.Proofs.YtijeogdnjeamaaaGreatDoor
