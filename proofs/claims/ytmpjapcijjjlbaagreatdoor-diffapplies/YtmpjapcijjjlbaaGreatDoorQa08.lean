import Derived.Test.YtmpjapcijjjlbaaGreatDoorQa06
import Derived.Test.YtmpjapcijjjlbaaGreatDoorQa07
import Derived.Test.YtmpjapcijjjlbaaGreatDoorQa03
import Derived.Lib.AppendZeros
namespace Go.Proofs.YtmpjapcijjjlbaaGreatDoor
open Go.RowKit
set_option linter.unusedVariables false
set_option linter.unusedSimpArgs false
theorem step_callg {P : Program} {ops : Array Oper} {o : Oper} {a : Act} {w : World} {K : Act → World → Prop} {Q : Exit → Act → World → Prop} {E : Prop} (hw : Region.wanted o (yielded ops a.tmps) = true) (f : FuncId) (args : List Operand) (ts : Array TypeId) (vs : List Value) (R : Ending → World → Prop)
    (ho : o.op = .call { callee := .value (.func f), args := args.toArray, argTypes := ts }) (hx : args.map a.eval = vs) (hent : ∀ w : World, (callFunc f vs.toArray).run P w = .ok (.enter f vs.toArray) w)
    (hc : Calls P f vs.toArray w R) (h : ∀ e w', R e w' → ∃ r, e = .returned r ∧ K (a.put o.dst r) w') :
    if Region.wanted o (yielded ops a.tmps) = true then Oper.wp P o a w K Q else E := by
  rw [if_pos hw]
  unfold Oper.wp
  simp only [execOp, ho, resolve, invoke, go_sem, List.map_toArray, hx, hent]
  simp [go_sem, hent, Oper.upon_enter]
  refine hc.mono ?_
  intro e w' hr
  obtain ⟨r, rfl, hk⟩ := h e w' hr
  exact hk
def okG (e : Int) (y : Gh) : Prop := ¬ y.1 < e ∧ (y.1 + ((min (cA y.2.2.2.2) 1 : Nat) : Int) ≤ 999999999 ∧ ((cA y.2.2.2.2 : Nat) : Int) ≤ 999999999 ∧ y.2.1 + ((min (cB y.2.2.2.2) 1 : Nat) : Int) ≤ 999999999 ∧ ((cB y.2.2.2.2 : Nat) : Int) ≤ 999999999) ∧ y.2.2.2.2.any chE = true ∧ y.2.2.2.2.any emE = false
def enA (l : List Gh) : Nat → Int
  | 0 => 0
  | i + 1 => (l.getD i g0).1 + ((cA (l.getD i g0).2.2.2.2 : Nat) : Int)
def Rgt (l : List Gh) : Prop := ∀ j, j < l.length → okG (enA l j) (l.getD j g0)
def BIR (p : Prop) (e : Ending) : Prop := ∃ b : Bool, (b = true ↔ p) ∧ e = .returned (.bool b)
def IOk (S : List Gh) : Prop := ∀ y ∈ S, (-1000000000000 ≤ y.1 ∧ y.1 ≤ 1000000000000) ∧ (-5000000000000 ≤ y.2.1 ∧ y.2.1 ≤ 5000000000000) ∧ y.2.2.2.2.length ≤ 1000000 ∧ LOk y.2.2.2.2
structure QR (g : Nat) (a b : Int) (W : World) : Prop where
  c0 : W.cell? ⟨g, 0, none⟩ = some (.int .i64 a)
  c1 : W.cell? ⟨g, 1, none⟩ = some (.int .i64 b)
theorem mx2 (x y : Int) : (if y > x then y else x) = max x y := by
  split <;> omega
theorem run_max4 (ts : Array TypeId) (t : TypeId) (x y z u : Int) (w : World) : (Builtin.max_ ts t #[.int .i64 x, .int .i64 y, .int .i64 z, .int .i64 u]).run Tryz.prog w = .ok (.int .i64 (max (max (max x y) z) u)) w := by
  rw [← mx2 _ u, ← mx2 _ z, ← mx2 _ y]
  simp [Builtin.max_, Builtin.max2]
structure OKB (ya en mx : Int) (ch em : Bool) : Prop where
  a : ¬ ya < en
  b : ¬ 999999999 < mx
  c : ch = true
  d : em = false
set_option maxRecDepth 20000 in
set_option maxHeartbeats 4000000 in
theorem areRight_any {w : World} (ha : Option Addr) (hc : Nat) (l : List Gh) (hP : PG w ha hc l) (hE : ∀ y ∈ l, PE w y.2.2.1 y.2.2.2.1 y.2.2.2.2) (hok : IOk l) (hn : l.length ≤ 1000000) :
    Calls Tryz.prog 38 #[.slice ha l.length hc] w fun e w' => BIR (Rgt l) e ∧ Below w.heap.size w w' := by
  obtain ⟨q, HQ⟩ : ∃ n, Hid (l.length = n) := ⟨_, rfl⟩
  obtain ⟨G, HG⟩ : ∃ n, Hid (w.heap.size = n) := ⟨_, rfl⟩
  have hq6 : q ≤ 1000000 := by rw [← HQ.out]; exact hn
  have HPP : Hid (∀ W, Below G w W → PG W ha hc l) := hid (fun W hW => hP.below (by rw [HG.out]; exact hW))
  have HPE : Hid (∀ W, Below G w W → ∀ y ∈ l, PE W y.2.2.1 y.2.2.2.1 y.2.2.2.2) := hid (fun W hW y hy => (hE y hy).below (by rw [HG.out]; exact hW))
  have HFA : Hid (0 < q → ∃ b off, ha = some ⟨b, off, none⟩) := hid (fun h0 => by
    obtain ⟨b, off, e1, _⟩ := hP.at_ (by rw [HQ.out]; exact h0)
    exact ⟨b, off, e1⟩)
  have HGS : Hid (∀ W, Below G w W → G ≤ W.heap.size) := hid (fun W hW => by have := hW.size; have := HG.out; omega)
  have HOK := hid hok
  rw [HQ.out, HG.out]
  clear hP hE hok hn
  go_enter Tryz.func38, Tryz.ntmps38
  go_wp2_with fail
  go_loopg [3, 10] q (fun gg ev iv wr => ∃ i : Nat, i ≤ q ∧ gg = q - i ∧ iv = .int .i64 i ∧ ev = .int .i64 (enA l i) ∧ Hid (Below G w wr) ∧ Hid (∀ j, j < i → okG (enA l j) (l.getD j g0)))
  case atStart => exact ⟨0, Nat.zero_le _, rfl, rfl, rfl, hid (Below.refl _ _), hid (fun j hj => by omega)⟩
  case round =>
    obtain ⟨i, hi, hkk, rfl, rfl, HB, HND⟩ := hrel
    by_cases hlt : i < q
    · have hlti : (i : Int) < (q : Int) := by omega
      obtain ⟨b, off, rfl⟩ := HFA.out (by omega)
      have hil : i < l.length := by rw [HQ.out]; exact hlt
      obtain ⟨en, HEN⟩ : ∃ n, Hid (enA l i = n) := ⟨_, rfl⟩
      obtain ⟨hc0, hc1, hc2⟩ := PG.three (HPP.out _ HB.out) i hil
      obtain ⟨y, HY⟩ : ∃ y, Hid (l.getD i g0 = y) := ⟨_, rfl⟩
      have hym : y ∈ l := by rw [← HY.out]; exact getD_mem l i g0 hil
      rw [HY.out] at hc0 hc1 hc2
      obtain ⟨⟨ya0, ya1⟩, ⟨yb0, yb1⟩, hel, hlok⟩ := HOK.out y hym
      have HPM : Hid (∀ W, Below G w W → PE W y.2.2.1 y.2.2.2.1 y.2.2.2.2) := hid (fun W hW => HPE.out W hW y hym)
      have HEB : Hid (-2000000000000 ≤ en ∧ en ≤ 2000000000000) := hid (by
        rw [← HEN.out]
        cases i with
        | zero =>
          simp only [enA]
          omega
        | succ k =>
          have h1 := HOK.out _ (getD_mem l k g0 (by omega))
          have h2 := cA_le (l.getD k g0).2.2.2.2
          simp only [enA]
          have := h1.1
          have := h1.2.2.1
          omega)
      have heb := HEB.out
      have HNX : Hid (enA l (i + 1) = y.1 + ((cA y.2.2.2.2 : Nat) : Int)) := hid (by rw [enA, HY.out])
      have HDO : Hid (okG en y → ∀ j, j < i + 1 → okG (enA l j) (l.getD j g0)) := hid (fun h j hj => by
        by_cases e : j = i
        · rw [e, HEN.out, HY.out]; exact h
        · exact HND.out j (by omega))
      have HDN : Hid (¬ okG en y → ¬ Rgt l) := hid (fun h1 h2 => h1 (by have := h2 i hil; rwa [HEN.out, HY.out] at this))
      obtain ⟨ya, yb, ea, ec, es⟩ := y
      unfold slE at hc2
      simp only at hc0 hc1 hc2 ya0 ya1 yb0 yb1 hel hlok HPM HNX
      obtain ⟨ne, HNE⟩ : ∃ n, Hid (es.length = n) := ⟨_, rfl⟩
      rw [HNE.out] at hc2
      obtain ⟨na, HNA⟩ : ∃ n, Hid (cA es = n) := ⟨_, rfl⟩
      obtain ⟨nb, HNB⟩ : ∃ n, Hid (cB es = n) := ⟨_, rfl⟩
      have hna : na ≤ 1000000 := by rw [← HNA.out]; exact Nat.le_trans (cA_le es) hel
      have hnb : nb ≤ 1000000 := by rw [← HNB.out]; exact Nat.le_trans (cB_le es) hel
      rw [HNA.out] at HNX
      obtain ⟨en2, HE2⟩ : ∃ n, Hid (ya + (na : Int) = n) := ⟨_, rfl⟩
      rw [HE2.out] at HNX
      have hen2 : ya + (na : Int) = en2 := HE2.out
      have hwe : IntKind.i64.wrap en2 = en2 := by rw [IntKind.wrap_i64]; omega
      obtain ⟨ra, HRA⟩ : ∃ n, Hid (ya + ((min na 1 : Nat) : Int) = n) := ⟨_, rfl⟩
      obtain ⟨rb, HRB⟩ : ∃ n, Hid (yb + ((min nb 1 : Nat) : Int) = n) := ⟨_, rfl⟩
      obtain ⟨ch, HCH⟩ : ∃ n, Hid (es.any chE = n) := ⟨_, rfl⟩
      obtain ⟨em, HEM⟩ : ∃ n, Hid (es.any emE = n) := ⟨_, rfl⟩
      obtain ⟨mx, HMX⟩ : ∃ n, Hid (max (max (max ra (na : Int)) rb) (nb : Int) = n) := ⟨_, rfl⟩
      have hmx : ∀ (ts : Array TypeId) (t : TypeId) (W : World), (Builtin.max_ ts t #[.int .i64 ra, .int .i64 (na : Int), .int .i64 rb, .int .i64 (nb : Int)]).run Tryz.prog W = .ok (.int .i64 mx) W := fun ts t W => by rw [← HMX.out]; exact run_max4 ts t _ _ _ _ W
      have HOKG : Hid (okG en (ya, yb, ea, ec, es) ↔ OKB ya en mx ch em) := hid (by
        rw [← HMX.out]
        unfold okG
        simp only
        rw [HNA.out, HNB.out, HRA.out, HRB.out, HCH.out, HEM.out]
        constructor
        · rintro ⟨h1, ⟨h2, h3, h4, h5⟩, h6⟩
          exact ⟨h1, by omega, h6.1, h6.2⟩
        · rintro ⟨h1, h2, h6, h7⟩
          exact ⟨h1, ⟨by omega, by omega, by omega, by omega⟩, h6, h7⟩)
      have C35 : Hid (∀ W, Below G w W → Calls Tryz.prog 35 #[.slice ea ne ec] W fun e w' => e = .returned (.tuple #[.int .i64 (na : Nat), .int .i64 (nb : Nat)]) ∧ Below W.heap.size W w') := hid (fun W h => by
        rw [← HNE.out, ← HNA.out, ← HNB.out]
        exact count_any ea ec es (HPM.out W h) hel)
      have C61a : Hid (∀ W : World, Calls Tryz.prog 61 #[.int .i64 ya, .int .i64 (na : Int)] W fun e w' => e = .returned (.int .i64 ra) ∧ w' = W) := hid (fun W => by
        rw [← HRA.out]
        exact start_int ya na (by omega) W)
      have C61b : Hid (∀ W : World, Calls Tryz.prog 61 #[.int .i64 yb, .int .i64 (nb : Int)] W fun e w' => e = .returned (.int .i64 rb) ∧ w' = W) := hid (fun W => by
        rw [← HRB.out]
        exact start_int yb nb (by omega) W)
      have C62a : Hid (∀ W, Below G w W → Calls Tryz.prog 62 #[.slice ea ne ec, .func (.func 63) #[] #[]] W fun e w' => e = .returned (.bool ch) ∧ Below W.heap.size W w') := hid (fun W h => by
        rw [← HNE.out, ← HCH.out]
        exact containsF63 ea ec es (HPM.out W h) hel)
      have C62b : Hid (∀ W, Below G w W → Calls Tryz.prog 62 #[.slice ea ne ec, .func (.func 64) #[] #[]] W fun e w' => e = .returned (.bool em) ∧ Below W.heap.size W w') := hid (fun W h => by
        rw [← HNE.out, ← HEM.out]
        exact containsF64 ea ec es (HPM.out W h) hel)
      obtain ⟨g, HGg⟩ : ∃ n, Hid (wr.heap.size = n) := ⟨_, rfl⟩
      obtain ⟨wa, HWa⟩ : ∃ u, Hid (wr.alloc (.cells #[.int .i64 ya, .int .i64 yb, .slice ea ne ec] 73) = u) := ⟨_, rfl⟩
      have HBw : Hid (Below wr.heap.size wr wa) := hid (by rw [← HWa.out]; exact (Below.refl _ wr).alloc (Nat.le_refl _) _)
      have HBa : Hid (Below G w wa) := hid (HB.out.trans (HBw.out.mono (HGS.out _ HB.out)))
      have HGa : Hid (wa.heap[g]? = some (.cells #[.int .i64 ya, .int .i64 yb, .slice ea ne ec] 73 (0, 0))) := hid (by rw [← HWa.out, ← HGg.out]; exact heap_alloc_new wr _)
      have HCC : Hid (∀ W, Below wa.heap.size wa W → W.cell? ⟨g, 0, none⟩ = some (.int .i64 ya) ∧ W.cell? ⟨g, 1, none⟩ = some (.int .i64 yb) ∧ W.cell? ⟨g, 2, none⟩ = some (.slice ea ne ec)) := hid (fun W hW => by
        have h := (hW.block g (lt_of_some HGa.out)).trans HGa.out
        exact ⟨by rw [cell_of_row _ g 0 _ _ _ h]; rfl, by rw [cell_of_row _ g 1 _ _ _ h]; rfl, by rw [cell_of_row _ g 2 _ _ _ h]; rfl⟩)
      obtain ⟨p0, p1, p2⟩ := HCC.out wa (Below.refl _ _)
      rw [HEN.out]
      clear hym hil hel hlok
      go_wp2_with fail
      rw [HWa.out, HGg.out]
      refine (C35.out wa HBa.out).mono ?_
      rintro e w2 ⟨rfl, hb2⟩
      have HB2 : Hid (Below wa.heap.size wa w2) := hid hb2
      have HBd : Hid (Below wa.heap.size wa w2.drew) := hid (hb2.trans ⟨rfl, rfl, rfl, Nat.le_refl _, fun _ _ => rfl⟩)
      clear hb2 p0 p1 p2 hc0 hc1 hc2
      go_wp2_with fail
      have HQ0 : Hid (∀ W, Below wa.heap.size wa W → QR g ya yb W) := hid (fun W hW => ⟨(HCC.out W hW).1, (HCC.out W hW).2.1⟩)
      refine wp_region_held_drew (S := QR g ya yb) (by kernel_rfl) (HQ0.out _ HBd.out) (fun hHeld => ?_)
      generalize w2.drew = u0 at hHeld HBd ⊢
      refine takeL (i := 0) (v := ?_) rfl (by kernel_rfl) (by kernel_rfl) (by kernel_rfl) (fun _ _ _ h => h) (Or.inl ⟨by rfl, ?_⟩) hHeld ?_
      rotate_left
      · rintro w' ⟨c0, c1⟩; go_simp; rfl
      try simp only [Act.put, List.setIfInBounds_toArray, List.set_cons_zero, List.set_cons_succ]
      refine takeL (i := 1) (v := ?_) rfl (by kernel_rfl) (by kernel_rfl) (by kernel_rfl) (fun _ _ _ h => h) (Or.inl ⟨by rfl, ?_⟩) hHeld ?_
      rotate_left
      · rintro w' ⟨c0, c1⟩; go_simp; rfl
      try simp only [Act.put, List.setIfInBounds_toArray, List.set_cons_zero, List.set_cons_succ]
      refine takeL (i := 2) (v := ?_) rfl (by kernel_rfl) (by kernel_rfl) (by kernel_rfl) (fun _ _ _ h => h) (Or.inl ⟨by rfl, ?_⟩) hHeld ?_
      rotate_left
      · rintro w' ⟨c0, c1⟩; go_simp; rfl
      try simp only [Act.put, List.setIfInBounds_toArray, List.set_cons_zero, List.set_cons_succ]
      by_cases hae : ya < en
      · refine takeL (i := 3) (v := .bool true) rfl (by kernel_rfl) (by kernel_rfl) (by kernel_rfl) (fun _ _ _ h => h) (Or.inl ⟨by rfl, ?_⟩) hHeld ?_
        · rintro w' ⟨c0, c1⟩; go_simp; try rfl
        try simp only [Act.put, List.setIfInBounds_toArray, List.set_cons_zero, List.set_cons_succ]
        refine takeL (i := 4) (v := .bool true) rfl (by kernel_rfl) (by kernel_rfl) (by kernel_rfl) (fun _ _ _ h => h) (Or.inl ⟨by rfl, ?_⟩) hHeld ?_
        · rintro w' ⟨c0, c1⟩; go_simp; try rfl
        try simp only [Act.put, List.setIfInBounds_toArray, List.set_cons_zero, List.set_cons_succ]
        refine takeL (i := 5) (v := undef) rfl (by kernel_rfl) (by kernel_rfl) (by kernel_rfl) (fun _ _ _ h => h) (Or.inr ⟨by kernel_rfl, rfl⟩) hHeld ?_
        try simp only [Act.put, List.setIfInBounds_toArray, List.set_cons_zero, List.set_cons_succ]
        refine takeL (i := 6) (v := undef) rfl (by kernel_rfl) (by kernel_rfl) (by kernel_rfl) (fun _ _ _ h => h) (Or.inr ⟨by kernel_rfl, rfl⟩) hHeld ?_
        try simp only [Act.put, List.setIfInBounds_toArray, List.set_cons_zero, List.set_cons_succ]
        refine takeL (i := 7) (v := undef) rfl (by kernel_rfl) (by kernel_rfl) (by kernel_rfl) (fun _ _ _ h => h) (Or.inr ⟨by kernel_rfl, rfl⟩) hHeld ?_
        try simp only [Act.put, List.setIfInBounds_toArray, List.set_cons_zero, List.set_cons_succ]
        refine takeL (i := 8) (v := undef) rfl (by kernel_rfl) (by kernel_rfl) (by kernel_rfl) (fun _ _ _ h => h) (Or.inr ⟨by kernel_rfl, rfl⟩) hHeld ?_
        try simp only [Act.put, List.setIfInBounds_toArray, List.set_cons_zero, List.set_cons_succ]
        refine takeL (i := 9) (v := undef) rfl (by kernel_rfl) (by kernel_rfl) (by kernel_rfl) (fun _ _ _ h => h) (Or.inr ⟨by kernel_rfl, rfl⟩) hHeld ?_
        try simp only [Act.put, List.setIfInBounds_toArray, List.set_cons_zero, List.set_cons_succ]
        refine takeL (i := 10) (v := undef) rfl (by kernel_rfl) (by kernel_rfl) (by kernel_rfl) (fun _ _ _ h => h) (Or.inr ⟨by kernel_rfl, rfl⟩) hHeld ?_
        try simp only [Act.put, List.setIfInBounds_toArray, List.set_cons_zero, List.set_cons_succ]
        refine takeL (i := 11) (v := undef) rfl (by kernel_rfl) (by kernel_rfl) (by kernel_rfl) (fun _ _ _ h => h) (Or.inr ⟨by kernel_rfl, rfl⟩) hHeld ?_
        try simp only [Act.put, List.setIfInBounds_toArray, List.set_cons_zero, List.set_cons_succ]
        refine takeL (i := 12) (v := undef) rfl (by kernel_rfl) (by kernel_rfl) (by kernel_rfl) (fun _ _ _ h => h) (Or.inr ⟨by kernel_rfl, rfl⟩) hHeld ?_
        try simp only [Act.put, List.setIfInBounds_toArray, List.set_cons_zero, List.set_cons_succ]
        refine takeL (i := 13) (v := undef) rfl (by kernel_rfl) (by kernel_rfl) (by kernel_rfl) (fun _ _ _ h => h) (Or.inr ⟨by kernel_rfl, rfl⟩) hHeld ?_
        try simp only [Act.put, List.setIfInBounds_toArray, List.set_cons_zero, List.set_cons_succ]
        refine takeL (i := 14) (v := undef) rfl (by kernel_rfl) (by kernel_rfl) (by kernel_rfl) (fun _ _ _ h => h) (Or.inr ⟨by kernel_rfl, rfl⟩) hHeld ?_
        try simp only [Act.put, List.setIfInBounds_toArray, List.set_cons_zero, List.set_cons_succ]
        refine takeL (i := 15) (v := undef) rfl (by kernel_rfl) (by kernel_rfl) (by kernel_rfl) (fun _ _ _ h => h) (Or.inr ⟨by kernel_rfl, rfl⟩) hHeld ?_
        try simp only [Act.put, List.setIfInBounds_toArray, List.set_cons_zero, List.set_cons_succ]
        refine takeL (i := 16) (v := undef) rfl (by kernel_rfl) (by kernel_rfl) (by kernel_rfl) (fun _ _ _ h => h) (Or.inr ⟨by kernel_rfl, rfl⟩) hHeld ?_
        try simp only [Act.put, List.setIfInBounds_toArray, List.set_cons_zero, List.set_cons_succ]
        refine takeL (i := 17) (v := .bool true) rfl (by kernel_rfl) (by kernel_rfl) (by kernel_rfl) (fun _ _ _ h => h) (Or.inl ⟨by rfl, ?_⟩) hHeld ?_
        · rintro w' ⟨c0, c1⟩; go_simp; try rfl
        try simp only [Act.put, List.setIfInBounds_toArray, List.set_cons_zero, List.set_cons_succ]
        refine wpAnyH_done (by kernel_rfl) ?_ _
        have HF : Hid (Below G w u0) := hid (HBa.out.trans (HBd.out.mono (HGS.out _ HBa.out)))
        have HNO : Hid (¬ Rgt l) := hid (HDN.out (fun h => (HOKG.out.1 h).a hae))
        clear hHeld
        go_wp2
        go_ret
        exact ⟨⟨false, ⟨fun h => (by cases h), fun h => absurd h HNO.out⟩, rfl⟩, HF.out⟩
      · refine takeL (i := 3) (v := .bool false) rfl (by kernel_rfl) (by kernel_rfl) (by kernel_rfl) (fun _ _ _ h => h) (Or.inl ⟨by rfl, ?_⟩) hHeld ?_
        · rintro w' ⟨c0, c1⟩; go_simp; try rfl
        try simp only [Act.put, List.setIfInBounds_toArray, List.set_cons_zero, List.set_cons_succ]
        refine takeL (i := 4) (v := .bool false) rfl (by kernel_rfl) (by kernel_rfl) (by kernel_rfl) (fun _ _ _ h => h) (Or.inl ⟨by rfl, ?_⟩) hHeld ?_
        · rintro w' ⟨c0, c1⟩; go_simp; try rfl
        try simp only [Act.put, List.setIfInBounds_toArray, List.set_cons_zero, List.set_cons_succ]
        refine takeL (i := 5) (v := ?_) rfl (by kernel_rfl) (by kernel_rfl) (by kernel_rfl) (fun _ _ _ h => h) (Or.inl ⟨by rfl, ?_⟩) hHeld ?_
        rotate_left
        · rintro w' ⟨c0, c1⟩; go_simp; rfl
        try simp only [Act.put, List.setIfInBounds_toArray, List.set_cons_zero, List.set_cons_succ]
        refine takeL (i := 6) (v := ?_) rfl (by kernel_rfl) (by kernel_rfl) (by kernel_rfl) (fun _ _ _ h => h) (Or.inl ⟨by rfl, ?_⟩) hHeld ?_
        rotate_left
        · rintro w' ⟨c0, c1⟩; go_simp; rfl
        try simp only [Act.put, List.setIfInBounds_toArray, List.set_cons_zero, List.set_cons_succ]
        refine takeL (i := 7) (v := ?_) rfl (by kernel_rfl) (by kernel_rfl) (by kernel_rfl) (fun _ _ _ h => h) (Or.inl ⟨by rfl, ?_⟩) hHeld ?_
        rotate_left
        · rintro w' ⟨c0, c1⟩; go_simp; rfl
        try simp only [Act.put, List.setIfInBounds_toArray, List.set_cons_zero, List.set_cons_succ]
        refine takeL (i := 9) (v := ?_) rfl (by kernel_rfl) (by kernel_rfl) (by kernel_rfl) (fun _ _ _ h => h) (Or.inl ⟨by rfl, ?_⟩) hHeld ?_
        rotate_left
        · rintro w' ⟨c0, c1⟩; go_simp; rfl
        try simp only [Act.put, List.setIfInBounds_toArray, List.set_cons_zero, List.set_cons_succ]
        refine takeL (i := 10) (v := ?_) rfl (by kernel_rfl) (by kernel_rfl) (by kernel_rfl) (fun _ _ _ h => h) (Or.inl ⟨by rfl, ?_⟩) hHeld ?_
        rotate_left
        · rintro w' ⟨c0, c1⟩; go_simp; rfl
        try simp only [Act.put, List.setIfInBounds_toArray, List.set_cons_zero, List.set_cons_succ]
        refine takeL (i := 11) (v := ?_) rfl (by kernel_rfl) (by kernel_rfl) (by kernel_rfl) (fun _ _ _ h => h) (Or.inl ⟨by rfl, ?_⟩) hHeld ?_
        rotate_left
        · rintro w' ⟨c0, c1⟩; go_simp; rfl
        try simp only [Act.put, List.setIfInBounds_toArray, List.set_cons_zero, List.set_cons_succ]
        refine takeL (i := 12) (v := ?_) rfl (by kernel_rfl) (by kernel_rfl) (by kernel_rfl) (fun _ _ _ h => h) (Or.inl ⟨by rfl, ?_⟩) hHeld ?_
        rotate_left
        · rintro w' ⟨c0, c1⟩; go_simp; rfl
        try simp only [Act.put, List.setIfInBounds_toArray, List.set_cons_zero, List.set_cons_succ]
        refine takeL (i := 14) (v := ?_) rfl (by kernel_rfl) (by kernel_rfl) (by kernel_rfl) (fun _ _ _ h => h) (Or.inl ⟨by rfl, ?_⟩) hHeld ?_
        rotate_left
        · rintro w' ⟨c0, c1⟩; go_simp; rfl
        try simp only [Act.put, List.setIfInBounds_toArray, List.set_cons_zero, List.set_cons_succ]
        refine wpAnyH_ready (rs := [8]) (by kernel_rfl) (by simp) ?_
        refine consL rfl (fun KK hKK => ?_) AllReadyH.nil
        refine step_callg (by rfl) 61 [.tmp 26, .tmp 27] _ [.int .i64 ya, .int .i64 (na : Int)] _ (by rfl) (by rfl) (enter61 _ _) (C61a.out _) ?_
        rintro e u1 ⟨rfl, rfl⟩
        refine ⟨_, rfl, ?_⟩
        refine hKK.out _ _ hHeld (fun _ => ?_)
        clear hKK KK
        try simp only [Act.put, List.setIfInBounds_toArray, List.set_cons_zero, List.set_cons_succ]
        refine wpAnyH_ready (rs := [13]) (by kernel_rfl) (by simp) ?_
        refine consL rfl (fun KK hKK => ?_) AllReadyH.nil
        refine step_callg (by rfl) 61 [.tmp 31, .tmp 32] _ [.int .i64 yb, .int .i64 (nb : Int)] _ (by rfl) (by rfl) (enter61 _ _) (C61b.out _) ?_
        rintro e u2 ⟨rfl, rfl⟩
        refine ⟨_, rfl, ?_⟩
        refine hKK.out _ _ hHeld (fun _ => ?_)
        clear hKK KK
        try simp only [Act.put, List.setIfInBounds_toArray, List.set_cons_zero, List.set_cons_succ]
        refine takeL (i := 15) (v := .int .i64 mx) rfl (by kernel_rfl) (by kernel_rfl) (by kernel_rfl) (fun _ _ _ h => h) (Or.inl ⟨by rfl, ?_⟩) hHeld ?_
        · rintro w' ⟨c0, c1⟩; go_simp; try rfl
        try simp only [Act.put, List.setIfInBounds_toArray, List.set_cons_zero, List.set_cons_succ]
        by_cases hbig : 999999999 < mx
        · refine takeL (i := 16) (v := .bool true) rfl (by kernel_rfl) (by kernel_rfl) (by kernel_rfl) (fun _ _ _ h => h) (Or.inl ⟨by rfl, ?_⟩) hHeld ?_
          · rintro w' ⟨c0, c1⟩; go_simp; try rfl
          try simp only [Act.put, List.setIfInBounds_toArray, List.set_cons_zero, List.set_cons_succ]
          refine takeL (i := 17) (v := .bool true) rfl (by kernel_rfl) (by kernel_rfl) (by kernel_rfl) (fun _ _ _ h => h) (Or.inl ⟨by rfl, ?_⟩) hHeld ?_
          · rintro w' ⟨c0, c1⟩; go_simp; try rfl
          try simp only [Act.put, List.setIfInBounds_toArray, List.set_cons_zero, List.set_cons_succ]
          refine wpAnyH_done (by kernel_rfl) ?_ _
          have HF : Hid (Below G w u2) := hid (HBa.out.trans (HBd.out.mono (HGS.out _ HBa.out)))
          have HNO : Hid (¬ Rgt l) := hid (HDN.out (fun h => (HOKG.out.1 h).b hbig))
          clear hHeld
          go_wp2
          go_ret
          exact ⟨⟨false, ⟨fun h => (by cases h), fun h => absurd h HNO.out⟩, rfl⟩, HF.out⟩
        · refine takeL (i := 16) (v := .bool false) rfl (by kernel_rfl) (by kernel_rfl) (by kernel_rfl) (fun _ _ _ h => h) (Or.inl ⟨by rfl, ?_⟩) hHeld ?_
          · rintro w' ⟨c0, c1⟩; go_simp; try rfl
          try simp only [Act.put, List.setIfInBounds_toArray, List.set_cons_zero, List.set_cons_succ]
          refine takeL (i := 17) (v := .bool false) rfl (by kernel_rfl) (by kernel_rfl) (by kernel_rfl) (fun _ _ _ h => h) (Or.inl ⟨by rfl, ?_⟩) hHeld ?_
          · rintro w' ⟨c0, c1⟩; go_simp; try rfl
          try simp only [Act.put, List.setIfInBounds_toArray, List.set_cons_zero, List.set_cons_succ]
          refine wpAnyH_done (by kernel_rfl) ?_ _
          have HF : Hid (Below G w u2) := hid (HBa.out.trans (HBd.out.mono (HGS.out _ HBa.out)))
          obtain ⟨p0, p1, p2⟩ := HCC.out _ HBd.out
          clear hHeld
          go_wp2_with fail
          refine (C62a.out _ HF.out).mono ?_
          rintro e u3 ⟨rfl, hb3⟩
          have HF3 : Hid (Below G w u3) := hid (HF.out.trans (hb3.mono (HGS.out _ HF.out)))
          have HB3 : Hid (Below wa.heap.size wa u3) := hid (HBd.out.trans (hb3.mono HBd.out.size))
          clear hb3 p0 p1 p2
          cases ch with
          | false =>
            have HNO : Hid (¬ Rgt l) := hid (HDN.out (fun h => by have := (HOKG.out.1 h).c; cases this))
            go_wp2
            go_ret
            exact ⟨⟨false, ⟨fun h => (by cases h), fun h => absurd h HNO.out⟩, rfl⟩, HF3.out⟩
          | true =>
            obtain ⟨p0, p1, p2⟩ := HCC.out _ HB3.out
            go_wp2_with fail
            refine (C62b.out _ HF3.out).mono ?_
            rintro e u4 ⟨rfl, hb4⟩
            have HF4 : Hid (Below G w u4) := hid (HF3.out.trans (hb4.mono (HGS.out _ HF3.out)))
            have HB4 : Hid (Below wa.heap.size wa u4) := hid (HB3.out.trans (hb4.mono HB3.out.size))
            clear hb4 p0 p1 p2
            cases em with
            | true =>
              have HNO : Hid (¬ Rgt l) := hid (HDN.out (fun h => by have := (HOKG.out.1 h).d; cases this))
              go_wp2
              go_ret
              exact ⟨⟨false, ⟨fun h => (by cases h), fun h => absurd h HNO.out⟩, rfl⟩, HF4.out⟩
            | false =>
              have HDD : Hid (∀ j, j < i + 1 → okG (enA l j) (l.getD j g0)) := hid (HDO.out (HOKG.out.2 ⟨by omega, by omega, rfl, rfl⟩))
              obtain ⟨p0, p1, p2⟩ := HCC.out _ HB4.out
              go_wp2
              go_roundg (q - (i + 1))
              case measure => omega
              case rel => exact ⟨i + 1, by omega, rfl, by go_num, by rw [HNX.out], HF4, HDD⟩
    · have hlti : ¬ (i : Int) < (q : Int) := by omega
      have HF : Hid (Rgt l) := hid (fun j hj => HND.out j (by have := HQ.out; omega))
      go_wp2
      go_ret
      exact ⟨⟨true, ⟨fun _ => HF.out, fun _ => rfl⟩, rfl⟩, HB.out⟩
end Go.Proofs.YtmpjapcijjjlbaaGreatDoor
namespace Go.Proofs.YtmpjapcijjjlbaaGreatDoor
open Go.RowKit
set_option linter.unusedVariables false
set_option linter.unusedSimpArgs false
def wtE (l : List Ed) : Nat := (l.map fun e => e.2.length + 31).sum
def wtL (l : List Rh) : Nat := (l.map fun h => 60 + wtE h.2).sum
def ctL (l : List Rh) : Nat := (l.map fun h => 1 + h.2.length).sum
theorem wtL_app (a b : List Rh) : wtL (a ++ b) = wtL a + wtL b := by simp [wtL]
theorem ctL_app (a b : List Rh) : ctL (a ++ b) = ctL a + ctL b := by simp [ctL]
theorem rdS_cases (st : List Rh) (x : Str) : (rdS st x = st ++ [(rdA x, [])]) ∨ rdS st x = st ∨ (∃ s0 a es e, st = s0 ++ [(a, es ++ [e])] ∧ rdS st x = s0 ++ [(a, es ++ [(e.1, trE e.2)])]) ∨ (∃ s0 a es, st = s0 ++ [(a, es)] ∧ rdS st x = s0 ++ [(a, es ++ [rdE x])]) := by
  by_cases hp : Lib.hasPrefix x hdS = true
  · exact .inl (rdS_head hp)
  · rcases List.eq_nil_or_concat st with h | ⟨s0, h0, h⟩
    · rw [h]
      exact .inr (.inl (rdS_none hp))
    · rw [List.concat_eq_append] at h
      obtain ⟨a, es⟩ := h0
      by_cases hx : x = noM ∧ es ≠ []
      · rcases List.eq_nil_or_concat es with h1 | ⟨e0, e1, h1⟩
        · exact absurd h1 hx.2
        · rw [List.concat_eq_append] at h1
          subst h1
          exact .inr (.inr (.inl ⟨s0, a, e0, e1, h, by rw [h]; exact rdS_end hp hx.1⟩))
      · exact .inr (.inr (.inr ⟨s0, a, es, h, by rw [h]; exact rdS_ed hp hx⟩))
theorem rdS_wt (st : List Rh) (x : Str) : wtL (rdS st x) ≤ wtL st + (x.length + 100) ∧ ctL (rdS st x) ≤ ctL st + 1 := by
  rcases rdS_cases st x with h | h | ⟨s0, a, es, e, h1, h⟩ | ⟨s0, a, es, h1, h⟩
  · rw [h, wtL_app, ctL_app]
    have e1 : wtL [(rdA x, [])] = 60 := rfl
    have e2 : ctL [(rdA x, [])] = 1 := rfl
    omega
  · rw [h]
    omega
  · rw [h, h1, wtL_app, ctL_app, wtL_app, ctL_app]
    have := trE_len e.2
    simp [wtL, ctL, wtE]
    omega
  · rw [h, h1, wtL_app, ctL_app, wtL_app, ctL_app]
    have := rdE_len x
    simp [wtL, ctL, wtE]
    omega
theorem fold_wt : ∀ (L : List Str) (st : List Rh), wtL (L.foldl rdS st) ≤ wtL st + ((L.map List.length).sum + 100 * L.length) ∧ ctL (L.foldl rdS st) ≤ ctL st + L.length
  | [], st => by simp
  | x :: L, st => by
    have h1 := fold_wt L (rdS st x)
    have h2 := rdS_wt st x
    simp only [List.foldl_cons, List.map_cons, List.sum_cons, List.length_cons]
    omega
theorem rdH_wt (s : Str) : wtL (rdH s) ≤ 101 * s.length ∧ ctL (rdH s) ≤ s.length := by
  have h := fold_wt (lns s) []
  rw [lns_len] at h
  have h2 := lns_few s
  have e1 : wtL [] = 0 := rfl
  have e2 : ctL [] = 0 := rfl
  unfold rdH
  omega
theorem sum_mem (l : List Nat) (x : Nat) (h : x ∈ l) : x ≤ l.sum := mem_sum l x h
theorem ct_each {l : List Rh} {h : Rh} (hm : h ∈ l) : h.2.length + 1 ≤ ctL l := by
  have := sum_mem _ _ (List.mem_map_of_mem (f := fun h : Rh => 1 + h.2.length) hm)
  unfold ctL
  omega
theorem ct_len : ∀ l : List Rh, l.length ≤ ctL l
  | [] => Nat.zero_le _
  | h :: l => by
    have := ct_len l
    simp only [ctL, List.map_cons, List.sum_cons, List.length_cons] at this ⊢
    omega
theorem lines_wt : ∀ es : List Ed, (es.flatMap lineT).length ≤ wtE es
  | [] => Nat.le_refl _
  | e :: es => by
    have := lines_wt es
    have h2 : (lineT e).length ≤ e.2.length + 31 := by
      unfold lineT
      split <;> simp [noE]
    simp only [List.flatMap_cons, List.length_append, wtE, List.map_cons, List.sum_cons] at this ⊢
    omega
theorem hkG_wt {y : Gh} (h : (∃ x : Nat, y.1 = x ∧ x ≤ 1000000000) ∧ (∃ z : Nat, y.2.1 = z ∧ z ≤ 1000000000) ∧ y.2.2.2.2.length ≤ 1000000 ∧ LOk y.2.2.2.2) : (hkG y).length ≤ 60 + wtE y.2.2.2.2 := by
  obtain ⟨⟨x, hx, hx2⟩, ⟨z, hz, hz2⟩, hl, _⟩ := h
  unfold hkG
  rw [List.length_append, hx, hz]
  have h1 := headT_le x (cA y.2.2.2.2) z (cB y.2.2.2.2) hx2 (by have := cA_le y.2.2.2.2; omega) hz2 (by have := cB_le y.2.2.2.2; omega)
  have h2 := lines_wt y.2.2.2.2
  simp only [Int.toNat_natCast]
  omega
theorem hks_wt : ∀ (S : List Gh), NOk S → (S.flatMap hkG).length ≤ wtL (S.map ab)
  | [], _ => Nat.le_refl _
  | y :: S, h => by
    have h1 := hks_wt S (fun z hz => h z (by simp [hz]))
    have h2 := hkG_wt (h y (by simp))
    simp only [List.flatMap_cons, List.length_append, List.map_cons, wtL, List.sum_cons] at h1 ⊢
    have e : (ab y).2 = y.2.2.2.2 := rfl
    rw [e]
    omega
theorem stl_mem : ∀ (l : List Gh) (g : Int) (y : Gh), y ∈ stl g l → ∃ i, i < l.length ∧ y = stG (g + grw (l.take i)) (l.getD i g0) := fun l g y hy => by
  obtain ⟨i, hi, e⟩ := List.getElem_of_mem hy
  rw [stl_len] at hi
  refine ⟨i, hi, ?_⟩
  rw [← stl_get l g i hi, List.getD_eq_getElem?_getD, List.getElem?_eq_getElem (by rw [stl_len]; exact hi)]
  exact e.symm
theorem stl_iok {l : List Gh} (h : GOk l) (hes : ∀ y ∈ l, y.2.2.2.2.length ≤ 1000000) (hn : l.length ≤ 1000000) : IOk (stl 0 l) := fun y hy => by
  obtain ⟨i, hi, e⟩ := stl_mem l 0 y hy
  have hm := getD_mem l i g0 hi
  have hlm := hes _ hm
  obtain ⟨⟨h1, h2, _⟩, h3⟩ := h _ hm
  have h4 := grw_le (l.take i) (fun z hz => hes z (List.mem_of_mem_take hz))
  rw [List.length_take] at h4
  rw [e]
  unfold stG
  refine ⟨by simp only; omega, by simp only; omega, hlm, h3⟩
theorem rgt_en (l : List Gh) (hr : Rgt (stl 0 l)) : ∀ j, j ≤ l.length → 0 ≤ enA (stl 0 l) j + grw (l.take j) ∧ 0 ≤ enA (stl 0 l) j := by
  intro j
  induction j with
  | zero => intro _; simp [enA, grw]
  | succ j ih =>
    intro hj
    have ih := ih (by omega)
    have h1 := hr j (by rw [stl_len]; omega)
    have h2 := stl_get l 0 j (by omega)
    rw [Int.zero_add] at h2
    have h3 := grw_snoc l j (by omega)
    rw [enA, h3]
    obtain ⟨h4, _⟩ := h1
    rw [h2] at h4 ⊢
    unfold stG at h4 ⊢
    unfold dfG
    simp only at h4 ⊢
    omega
theorem rgt_nok {l : List Gh} (hi : IOk (stl 0 l)) (hr : Rgt (stl 0 l)) : NOk (stl 0 l) := fun y hy => by
  obtain ⟨j, hj, e⟩ := stl_mem l 0 y hy
  have h1 := hr j (by rw [stl_len]; exact hj)
  have h2 := stl_get l 0 j hj
  rw [← e] at h2
  rw [h2] at h1
  obtain ⟨h3, ⟨h4, h5, h6, h7⟩, _⟩ := h1
  have h8 := rgt_en l hr j (by omega)
  have hb : y.2.1 = y.1 + grw (l.take j) := by rw [e]; unfold stG; simp only; omega
  obtain ⟨_, _, h9, h10⟩ := hi y hy
  exact ⟨⟨y.1.toNat, by omega, by omega⟩, ⟨y.2.1.toNat, by omega, by omega⟩, h9, h10⟩
theorem equal_any {w : World} (a : Option Addr) (ca : Nat) (s : Str) (hA : PB w a ca s) (b : Option Addr) (cb : Nat) (t : Str) (hB : PB w b cb t) :
    Calls Tryz.prog 39 #[.slice a s.length ca, .slice b t.length cb] w fun e w' => e = .returned (.bool (s == t)) ∧ w' = w := by
  obtain ⟨n, HN⟩ : ∃ n, Hid (s.length = n) := ⟨_, rfl⟩
  obtain ⟨m, HM⟩ : ∃ n, Hid (t.length = n) := ⟨_, rfl⟩
  have h1 : (convert 22 9 (.slice a n ca)).run Tryz.prog w = .ok (sV s) w := by rw [← HN.out]; exact conv_str hA
  have h2 : (convert 22 9 (.slice b m cb)).run Tryz.prog w = .ok (sV t) w := by rw [← HM.out]; exact conv_str hB
  unfold sV at h1 h2
  rw [HN.out, HM.out]
  clear hA hB
  go_enter Tryz.func39, Tryz.ntmps39
  go_wp2
  go_ret
  exact ⟨by simp, rfl⟩
theorem Tryz.results18 : Tryz.f18.results = #[.tmp 2, .tmp 3] := by kernel_rfl
def Rd (s : Str) (l : List Gh) : Prop := l.map ab = rdH s ∧ GOk l ∧ (∀ y ∈ l, y.2.2.2.2.length ≤ 1000000) ∧ l.length ≤ 1000000
def PostRp (s : Str) (w : World) (G : Nat) (e : Ending) (w' : World) : Prop :=
  Below G w w' ∧ ∃ l, Rd s l ∧ (((Rgt (stl 0 l) ∧ (stl 0 l).flatMap hkG = s) ∧ ∃ ha hc, e = .returned (.tuple #[.slice ha l.length hc, .nilIface]) ∧ PG w' ha hc (stl 0 l) ∧ (∀ y ∈ stl 0 l, PE w' y.2.2.1 y.2.2.2.1 y.2.2.2.2)) ∨ (¬ (Rgt (stl 0 l) ∧ (stl 0 l).flatMap hkG = s) ∧ e = .returned (.tuple #[.slice none 0 0, .iface 33 (.int .i64 90)])))
theorem rd_ok {s : Str} {l : List Gh} (hs : s.length ≤ 1000000) (h : l.map ab = rdH s) (hg : GOk l) : Rd s l := by
  have h1 := (rdH_wt s).2
  refine ⟨h, hg, fun y hy => ?_, ?_⟩
  · have := ct_each (l := rdH s) (h := ab y) (by rw [← h]; exact List.mem_map_of_mem hy)
    have e : (ab y).2.length = y.2.2.2.2.length := rfl
    omega
  · have := ct_len (rdH s)
    rw [← h, List.length_map] at this
    rw [h] at this
    omega
set_option maxRecDepth 20000 in
set_option maxHeartbeats 2000000 in
theorem readPatch_any {w : World} (a : Option Addr) (cap : Nat) (s : Str) (hP : PB w a cap s) (hl : s.length ≤ 1000000) (he : Ers w) (hm : Mx w) (ht : Tab w) :
    Calls Tryz.prog 18 #[.slice a s.length cap] w (PostRp s w w.heap.size) := by
  obtain ⟨n, HN⟩ : ∃ n, Hid (s.length = n) := ⟨_, rfl⟩
  obtain ⟨G, HG⟩ : ∃ n, Hid (w.heap.size = n) := ⟨_, rfl⟩
  have C36 : Hid (Calls Tryz.prog 36 #[.slice a n cap] w (PostRh s w G)) := hid (by rw [← HN.out, ← HG.out]; exact readHunks_any a cap s hP hl he hm)
  have HPB : Hid (∀ W, Below G w W → PB W a cap s) := hid (fun W hW => hP.below (by rw [HG.out]; exact hW))
  have HTB : Hid (∀ W, Below G w W → Tab W) := hid (fun W hW => ht.below (by rw [HG.out]; exact hW))
  have HSL := hid hl
  rw [HN.out, HG.out]
  clear hP hl he hm ht
  go_enter Tryz.func18, Tryz.ntmps18
  go_wp2_with fail
  refine C36.out.mono ?_
  rintro e w1 ⟨v, l, rfl, hbg, how, hab, hok⟩
  have hrd := rd_ok HSL.out hab hok
  have C37 : Hid (Calls Tryz.prog 37 #[v] w1 fun e w' => e = .returned (.tuple #[]) ∧ BG w w' G v (stl 0 l) ∧ ∀ y ∈ stl 0 l, OwE w' G y) := hid (settle_any v l hbg how hok hrd.2.2.1 hrd.2.2.2)
  have HRD := hid hrd
  have HIO : Hid (IOk (stl 0 l)) := hid (stl_iok hok hrd.2.2.1 hrd.2.2.2)
  have HLN : Hid ((stl 0 l).length = l.length) := hid (stl_len l 0)
  have HAB : Hid (wtL ((stl 0 l).map ab) ≤ 1000000000) := hid (by
    have h1 : ((stl 0 l).map ab).map (fun h : Rh => h.2) = (l.map ab).map (fun h : Rh => h.2) := by
      rw [List.map_map, List.map_map]
      have : ∀ (l : List Gh) (g : Int), (stl g l).map ((fun h : Rh => h.2) ∘ ab) = l.map ((fun h : Rh => h.2) ∘ ab) := by
        intro l
        induction l with
        | nil => intro g; rfl
        | cons y r ih => intro g; rw [stl, List.map_cons, List.map_cons, ih]; rfl
      exact this l 0
    have h2 : ∀ q : List Rh, wtL q = ((q.map (fun h : Rh => h.2)).map fun es => 60 + wtE es).sum := fun q => by
      unfold wtL
      rw [List.map_map]
      rfl
    rw [h2, h1, ← h2, hab]
    have := (rdH_wt s).1
    have := HSL.out
    omega)
  obtain ⟨l2, HL2⟩ : ∃ q, Hid (stl 0 l = q) := ⟨_, rfl⟩
  have HNK : Hid (Rgt l2 → NOk l2) := hid (fun h => by rw [← HL2.out] at h ⊢; exact rgt_nok HIO.out h)
  rw [HL2.out] at C37 HIO HLN HAB
  clear hbg how hab hok hrd
  go_wp2_with fail
  refine C37.out.mono ?_
  rintro e w2 ⟨rfl, hb2, ho2⟩
  obtain ⟨ha, hc, rfl, hpg, _⟩ := hb2.px (d := g0) (fun y _ => encG_len y)
  have HB2 : Hid (Below G w w2) := hid hb2.below
  have HG2 : Hid (G ≤ w2.heap.size) := hid hb2.le
  have HPG : Hid (∀ W, Below w2.heap.size w2 W → PG W ha hc l2) := hid (fun W hW => hpg.below hW)
  have HPE : Hid (∀ W, Below w2.heap.size w2 W → ∀ y ∈ l2, PE W y.2.2.1 y.2.2.2.1 y.2.2.2.2) := hid (fun W hW y hy => (ho2 y hy).pe.below hW)
  obtain ⟨m, HM⟩ : ∃ n, Hid (l2.length = n) := ⟨_, rfl⟩
  have HLM : Hid (l.length = m) := hid (by rw [← HM.out]; exact HLN.out.symm)
  have HM6 : Hid (l2.length ≤ 1000000) := hid (by rw [HLN.out]; exact HRD.out.2.2.2)
  have C38 : Hid (Calls Tryz.prog 38 #[.slice ha m hc] w2 fun e w' => BIR (Rgt l2) e ∧ Below w2.heap.size w2 w') := hid (by rw [← HM.out]; exact areRight_any ha hc l2 (HPG.out w2 (Below.refl _ _)) (HPE.out w2 (Below.refl _ _)) HIO.out HM6.out)
  rw [HM.out]
  clear hb2 ho2 hpg
  go_wp2_with fail
  refine C38.out.mono ?_
  rintro e w3 ⟨⟨b, hb, rfl⟩, hb3⟩
  have HB3 : Hid (Below w2.heap.size w2 w3) := hid hb3
  have HBG3 : Hid (Below G w w3) := hid (HB2.out.trans (hb3.mono HG2.out))
  have HBI := hid hb
  clear hb hb3
  cases b with
  | false =>
    have HNO : Hid (¬ (Rgt (stl 0 l) ∧ (stl 0 l).flatMap hkG = s)) := hid (fun h => by
      have := HBI.out.2 (by rw [← HL2.out]; exact h.1)
      cases this)
    go_wp2
    refine bodyPost_ret (results_tmp2 Tryz.results18 _ _ _) rfl ?_
    exact ⟨HBG3.out, l, HRD.out, .inr ⟨HNO.out, rfl⟩⟩
  | true =>
    have HRG : Hid (Rgt l2) := hid (HBI.out.1 rfl)
    have C16 : Hid (Calls Tryz.prog 16 #[.slice ha m hc] w3 (PostY (l2.flatMap hkG) w3)) := hid (by
      rw [← HM.out]
      exact writeHunksG_any ha hc l2 (HPG.out w3 HB3.out) HM6.out (HPE.out w3 HB3.out) (HNK.out HRG.out) (by have := hks_wt l2 (HNK.out HRG.out); have := HAB.out; omega) (HTB.out w3 HBG3.out))
    go_wp2_with fail
    refine C16.out.mono ?_
    rintro e w4 ⟨ya, yc, rfl, hpb, hb4⟩
    obtain ⟨T, HT⟩ : ∃ T, Hid (l2.flatMap hkG = T) := ⟨_, rfl⟩
    rw [HT.out] at hpb
    rw [HT.out]
    have HB4 : Hid (Below w2.heap.size w2 w4) := hid (HB3.out.trans (hb4.mono HB3.out.size))
    have HBG4 : Hid (Below G w w4) := hid (HB2.out.trans (HB4.out.mono HG2.out))
    obtain ⟨tl, HTL⟩ : ∃ n, Hid (T.length = n) := ⟨_, rfl⟩
    obtain ⟨bq, HBQ⟩ : ∃ b, Hid ((T == s) = b) := ⟨_, rfl⟩
    have C39 : Hid (Calls Tryz.prog 39 #[.slice ya tl yc, .slice a n cap] w4 fun e w' => e = .returned (.bool bq) ∧ w' = w4) := hid (by
      rw [← HTL.out, ← HN.out, ← HBQ.out]
      exact equal_any ya yc T hpb a cap s (HPB.out w4 HBG4.out))
    rw [HTL.out]
    clear hpb hb4
    go_wp2_with fail
    refine C39.out.mono ?_
    rintro e w5 ⟨rfl, rfl⟩
    cases bq with
    | false =>
      have HNO : Hid (¬ (Rgt (stl 0 l) ∧ (stl 0 l).flatMap hkG = s)) := hid (fun h => by
        have h1 := h.2
        rw [HL2.out, HT.out] at h1
        have h2 := HBQ.out
        rw [h1] at h2
        simp at h2)
      go_wp2
      refine bodyPost_ret (results_tmp2 Tryz.results18 _ _ _) rfl ?_
      exact ⟨HBG4.out, l, HRD.out, .inr ⟨HNO.out, rfl⟩⟩
    | true =>
      have HYES : Hid (Rgt (stl 0 l) ∧ (stl 0 l).flatMap hkG = s) := hid ⟨by rw [HL2.out]; exact HRG.out, by rw [HL2.out, HT.out]; exact beq_iff_eq.1 HBQ.out⟩
      go_wp2
      refine bodyPost_ret (results_tmp2 Tryz.results18 _ _ _) rfl ?_
      exact ⟨HBG4.out, l, HRD.out, .inl ⟨HYES.out, ha, hc, by rw [HLM.out]; rfl, by rw [HL2.out]; exact HPG.out _ HB4.out, by rw [HL2.out]; exact HPE.out _ HB4.out⟩⟩
end Go.Proofs.YtmpjapcijjjlbaaGreatDoor
namespace Go.Proofs.YtmpjapcijjjlbaaGreatDoor
open Go.RowKit
set_option linter.unusedVariables false
set_option linter.unusedSimpArgs false
theorem elem24 : Tryz.prog.underlying 40 = some (.slice (Tryz.prog.elem 40)) := by kernel_rfl
theorem size24e (w : World) : (Go.sizeOf (Tryz.prog.elem 40)).run Tryz.prog w = .ok 1 w := by kernel_rfl
theorem sl24_to (a : Option Addr) (n cap j : Nat) (h : j ≤ cap) (w : World) : (Instr.slice 40 (.slice a n cap) none (some (.int .i64 j)) none).run Tryz.prog w = .ok (.slice a j cap) w := by
  rw [run_slice_h w 40 a n cap elem24 .i64 j (by omega) (by omega), size24e, Result.andThen_ok, sliced]
  congr 2
  split
  · rfl
  · cases a with
    | none => rfl
    | some p => obtain ⟨b, o, f⟩ := p; simp [Addr.add]
theorem sl24_from (a : Option Addr) (n cap j : Nat) (h : j ≤ n) (w : World) : (Instr.slice 40 (.slice a n cap) (some (.int .i64 j)) none none).run Tryz.prog w = .ok (.slice (adX 1 a cap j) (n - j : Nat) (cap - j : Nat)) w := by
  rw [run_slice_l w 40 a n cap elem24 .i64 j (by omega) (by omega), size24e, Result.andThen_ok, sliced]
  rfl
end Go.Proofs.YtmpjapcijjjlbaaGreatDoor
