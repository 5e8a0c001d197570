import Derived.Test.YtbpdielmdhhdfaaGreatDoorMu05
import Derived.Test.YtbpdielmdhhdfaaGreatDoorMu06
import Derived.ArgAppend
import Derived.Laws.IdiomStrings
import Derived.Test.YtbpdielmdhhdfaaGreatDoorMu01
/- '[]byte(s)', and 'append' to it. -/
namespace Go.Proofs.YtbpdielmdhhdfaaGreatDoor
open Go.RowKit
set_option linter.unusedVariables false
set_option linter.unusedSimpArgs false
/-- A string's bytes, as numbers. -/
def nums (l : List UInt8) : List Int := l.map fun b => (b.toNat : Int)
theorem nums_len (l : List UInt8) : (nums l).length = l.length := by simp [nums]
theorem nums_isB (l : List UInt8) : IsB (nums l) := by
  intro x hx
  obtain ⟨b, _, rfl⟩ := List.mem_map.1 hx
  have := b.toNat_lt
  omega
theorem nums_app (l m : List UInt8) : nums (l ++ m) = nums l ++ nums m := by simp [nums]
/-- A slice at the head of a block: its bytes, and room behind them. -/
structure Mk (w : World) (g cap : Nat) (xs : List Int) : Prop where
  lt : g < w.heap.size
  capl : xs.length ≤ cap
  at_ : At w g 0 xs
  spare : ∀ i, xs.length ≤ i → i < cap → (w.cell? ⟨g, i, none⟩).isSome = true ∧ w.frozen? ⟨g, i, none⟩ = false
/-- What is known of a slice of bytes, of whatever address. -/
structure Sl (w : World) (a : Option Addr) (cap : Nat) (l : List Int) : Prop where
  capl : l.length ≤ cap
  at_ : 0 < l.length → ∃ b off, a = some ⟨b, off, none⟩ ∧ b < w.heap.size ∧ At w b off l
  nil : a = none → cap = 0
theorem Sl.below {w w' : World} {a : Option Addr} {cap : Nat} {l : List Int} (h : Sl w a cap l) (hb : Below w.heap.size w w') : Sl w' a cap l :=
  ⟨h.capl, fun h0 => by
    obtain ⟨b, off, e1, e2, e3⟩ := h.at_ h0
    exact ⟨b, off, e1, Nat.lt_of_lt_of_le e2 hb.size, fun i hi => (hb.cell (p := ⟨b, off + i, none⟩) e2).trans (e3 i hi)⟩, h.nil⟩
theorem conv_mk (l : List UInt8) (w : World) : ∃ cap w', (convert 9 23 (.string ⟨l.toArray⟩)).run Tryz.prog w = .ok (.slice (some ⟨w.heap.size, 0, none⟩) l.length cap) w' ∧ Mk w' w.heap.size cap (nums l) ∧ Below w.heap.size w w' ∧ w'.heap.size = w.heap.size + 1 := by
  have hr := run_bytes_of_string (P := Tryz.prog) w 9 23 5 ⟨l.toArray⟩ Tryz.underlying9 Tryz.underlying23 Tryz.underlying5
  have hsz : (⟨l.toArray⟩ : ByteArray).size = l.length := by simp [ByteArray.size]
  rw [hsz] at hr
  have hge := grownCap_ge w l.length 0 5
  generalize grownCap w l.length 0 5 = cap at hr hge
  have hrs : (bytesRow ⟨l.toArray⟩ cap).size = cap := by simp [bytesRow, ByteArray.size]; omega
  rw [hrs] at hr
  have h1 : ∀ i, i < l.length → (bytesRow ⟨l.toArray⟩ cap)[i]? = some (.int .u8 ((nums l).getD i 0)) := fun i hi => by
    simp [bytesRow, nums, hi, Array.getElem?_append]
  generalize bytesRow ⟨l.toArray⟩ cap = R at hr hrs h1
  have hh : (w.drew.alloc (.cells R 5 (cap, cap + 1))).heap[w.heap.size]? = some (.cells R 5 (cap, cap + 1)) := by
    show (w.heap.push _)[w.heap.size]? = _
    simp
  refine ⟨cap, _, hr, ⟨by simp, by rw [nums_len]; exact hge, ?_, ?_⟩, ?_, by simp⟩
  · intro i hi
    rw [nums_len] at hi
    rw [Nat.zero_add, World.cell?, hh]
    exact h1 i hi
  · intro i g1 g2
    constructor
    · rw [World.cell?, hh]
      show (R[i]?).isSome = true
      rw [Array.getElem?_eq_getElem (by omega)]
      rfl
    · rw [World.frozen?, hh]
      simp
      omega
  · exact ⟨rfl, rfl, rfl, by simp, fun k hk => by
      show (w.heap.push _)[k]? = _
      rw [Array.getElem?_push, if_neg (by omega)]⟩
/-- 'append' to it. -/
theorem app_mk (w : World) (g cap : Nat) (xs l : List Int) (a : Option Addr) (c : Nat) (hm : Mk w g cap xs) (hS : Sl w a c l) (hl : xs.length + l.length ≤ 1000000) :
    ∃ g' cap' w', (Builtin.append_ #[23, 23] 23 #[.slice (some ⟨g, 0, none⟩) xs.length cap, .slice a l.length c]).run Tryz.prog w = .ok (.slice (some ⟨g', 0, none⟩) (xs.length + l.length : Nat) cap') w' ∧
      At w' g' 0 (xs ++ l) ∧ xs.length + l.length ≤ cap' ∧ g' < w'.heap.size ∧ (g' = g ∨ w.heap.size ≤ g') ∧ w.grownBy w' (some g) := by
  obtain ⟨i5, hi, hz0, hz1, hz2⟩ := info_parts Tryz.info5
  by_cases h0 : l.length = 0
  · have hl0 : l = [] := List.length_eq_zero_iff.1 h0
    subst hl0
    refine ⟨g, cap, w, ?_, by simpa using hm.at_, by simpa using hm.capl, hm.lt, .inl rfl, ⟨rfl, rfl, rfl, Nat.le_refl _, fun _ _ _ => rfl⟩⟩
    have hc := hm.capl
    cases a with
    | none => simp [Builtin.append_, run_underlying Tryz.underlying23, sizeOf, typeInfo, hi, Builtin.lenOf, Builtin.firstCells, hc, storeCells]
    | some ad => simp [Builtin.append_, run_underlying Tryz.underlying23, sizeOf, typeInfo, hi, Builtin.lenOf, Builtin.firstCells, hc, storeCells, loadCells, loadCellsFrom]
  · obtain ⟨b, off, rfl, hb, hat⟩ := hS.at_ (by omega)
    have hnews : ∀ j u, (l.map (Value.int .u8))[j]? = some u → w.cell? ((⟨b, off, none⟩ : Addr).add j) = some u := fun j z hj => by
      rw [List.getElem?_map] at hj
      cases hc : l[j]? with
      | none => rw [hc] at hj; cases hj
      | some y =>
        rw [hc] at hj; cases hj
        have hlt := (List.getElem?_eq_some_iff.1 hc).1
        have := hat j hlt
        rw [addr_add]
        simpa [List.getD_eq_getElem?_getD, hc] using this
    have h1c : ∀ u ∈ l.map (Value.int .u8), u.oneCell' = true := ints_oneCell .u8 l
    by_cases hroom : xs.length + l.length ≤ cap
    · have hsp : ∀ j, j < (l.map (Value.int .u8)).length → (w.cell? ⟨g, 0 + xs.length * i5.size + j, none⟩).isSome = true := fun j hj => by
        rw [hz1, Nat.zero_add, Nat.mul_one]
        rw [List.length_map] at hj
        exact (hm.spare (xs.length + j) (by omega) (by omega)).1
      have hr := run_append_room_cells (P := Tryz.prog) w 23 23 5 i5 Tryz.underlying23 hi g 0 xs.length cap ⟨b, off, none⟩ l.length c (l.map (Value.int .u8)) (by rw [hz1]; simp) hnews h1c hroom hsp
        (fun j hj => by
          rw [hz1, Nat.zero_add, Nat.mul_one]
          rw [List.length_map] at hj
          exact (hm.spare (xs.length + j) (by omega) (by omega)).2)
      rw [hz1, Nat.zero_add, Nat.mul_one] at hr
      refine ⟨g, cap, _, hr, ?_, hroom, ?_, .inl rfl, grown_setCells g _ _ _ _ ⟨rfl, rfl, rfl, Nat.le_refl _, fun _ _ _ => rfl⟩⟩
      · intro i hi'
        rw [Nat.zero_add]
        by_cases hlt : i < xs.length
        · rw [World.cell?_setCells_out _ _ _ _ _ (fun _ _ => .inl hlt)]
          have := hm.at_ i hlt
          rw [Nat.zero_add] at this
          rw [this]
          simp [List.getD_eq_getElem?_getD, List.getElem?_append, hlt]
        · obtain ⟨j, rfl⟩ : ∃ j, i = xs.length + j := ⟨i - xs.length, by omega⟩
          rw [List.length_append] at hi'
          have hj : j < (l.map (Value.int .u8)).length := by rw [List.length_map]; omega
          rw [World.cell?_setCells_in _ _ _ _ (fun j hj => by have := hsp j hj; rwa [hz1, Nat.zero_add, Nat.mul_one] at this) j hj]
          simp [List.getD_eq_getElem?_getD, List.getElem?_append, show j < l.length by omega]
      · have : w.heap.size ≤ (w.setCells g xs.length (l.map (Value.int .u8))).heap.size := (grown_setCells g (l.map (Value.int .u8)) xs.length w w ⟨rfl, rfl, rfl, Nat.le_refl _, fun _ _ _ => rfl⟩).size
        exact Nat.lt_of_lt_of_le hm.lt this
    · obtain ⟨v', w', hr, hown, hg⟩ := run_append_arg_grows (P := Tryz.prog) w 23 23 5 i5 (.int .u8 0) 1 1 Tryz.underlying23 hi hz0 hz1 hz2 rfl (by omega) ⟨g, 0, none⟩ xs.length cap (xs.map (Value.int .u8)) (by simp)
        (fun j u hj => by
          rw [List.getElem?_map] at hj
          cases hc : xs[j]? with
          | none => rw [hc] at hj; cases hj
          | some y =>
            rw [hc] at hj; cases hj
            have hlt := (List.getElem?_eq_some_iff.1 hc).1
            have := hm.at_ j hlt
            rw [addr_add]
            simpa [List.getD_eq_getElem?_getD, hc] using this)
        ⟨b, off, none⟩ l.length c (l.map (Value.int .u8)) (by simp) hnews (by omega) (by unfold maxLen; omega) (by omega)
      obtain ⟨g', cap', rfl, h1, h2⟩ := hown.form (by omega)
      refine ⟨g', cap', w', hr, ?_, ?_, h2, .inr h1, ⟨hg.os, hg.tape, hg.output, hg.size, fun k hk _ => hg.block k hk (by simp)⟩⟩
      · intro i hi'
        rw [Nat.zero_add, hown.cellAt i (by simpa using hi'), ← List.map_append, List.getElem?_map, List.getElem?_eq_getElem hi']
        simp [List.getD_eq_getElem?_getD, List.getElem?_eq_getElem hi']
      · obtain ⟨_, ⟨hv, _⟩ | ⟨g2, cap2, cur, hv, _, _, hnc, _⟩⟩ := hown
        · cases hv
        · simp only [Value.slice.injEq] at hv
          omega
end Go.Proofs.YtbpdielmdhhdfaaGreatDoor
/- Package object: 'Encode'. -/
namespace Go.Proofs.YtbpdielmdhhdfaaGreatDoor
open Go.RowKit
set_option linter.unusedVariables false
set_option linter.unusedSimpArgs false
section
variable {P : Program} {ops : Array Oper} {o : Oper} {a : Act} {w : World} {K : Act → World → Prop} {Q : Exit → Act → World → Prop} {E : Prop}
theorem step_append (hg : o.guard = none) (s x : Operand) (t : TypeId) (sv xv v : Value) (w2 : World)
    (ho : o.op = .call { callee := .builtin .append, args := #[s, x], argTypes := #[t, t] }) (hs : a.eval s = sv) (hx : a.eval x = xv) (hr : (Builtin.append_ #[t, t] o.type #[sv, xv]).run P w = .ok v w2) (h : K (a.put o.dst v) w2) :
    if Region.wanted o (yielded ops a.tmps) = true then Oper.wp P o a w K Q else E := by
  have hw : Region.wanted o (yielded ops a.tmps) = true := by simp [Region.wanted, hg]
  rw [if_pos hw]
  unfold Oper.wp execOp
  simp only [ho, resolve, invoke, builtin, Sem.run_bind, Sem.run_pure, Result.andThen_ok, List.map_toArray, List.map_cons, List.map_nil, hs, hx, hr]
  exact h
theorem step_conv (hg : o.guard = none) (src dst : TypeId) (x : Operand) (xv v : Value) (w2 : World)
    (ho : o.op = .convert src dst x) (hx : a.eval x = xv) (hr : (convert src dst xv).run P w = .ok v w2) (h : K (a.put o.dst v) w2) :
    if Region.wanted o (yielded ops a.tmps) = true then Oper.wp P o a w K Q else E := by
  have hw : Region.wanted o (yielded ops a.tmps) = true := by simp [Region.wanted, hg]
  rw [if_pos hw]
  unfold Oper.wp execOp
  simp only [ho, Sem.run_bind, Sem.run_pure, Result.andThen_ok, hx, hr]
  exact h
theorem step_call1 (hg : o.guard = none) (f : FuncId) (s1 : Tmp) (t1 : TypeId) (v1 r : Value) (R : World → Prop)
    (ho : o.op = .call { callee := .value (.func f), args := #[.tmp s1], argTypes := #[t1] }) (hx1 : a.eval (.tmp s1) = v1) (hent : ∀ (v1 : Value) (w : World), (callFunc f #[v1]).run P w = .ok (.enter f #[v1]) w)
    (hc : Calls P f #[v1] w fun e w' => e = .returned r ∧ R w') (h : ∀ w', R w' → K (a.put o.dst r) w') :
    if Region.wanted o (yielded ops a.tmps) = true then Oper.wp P o a w K Q else E := by
  have hw : Region.wanted o (yielded ops a.tmps) = true := by simp [Region.wanted, hg]
  rw [if_pos hw]
  have h1' : a.tmps[s1]?.getD undef = v1 := by simpa [Act.eval] using hx1
  unfold Oper.wp
  simp [execOp, ho, resolve, invoke, go_sem]
  rw [h1', hent, Oper.upon_enter]
  refine hc.mono ?_
  rintro e w' ⟨rfl, hr⟩
  exact h w' hr
end
theorem enter34 (v : Value) (w : World) : (callFunc 34 #[v]).run Tryz.prog w = .ok (.enter 34 #[v]) w := by kernel_rfl
/-- 3.1: an object's bytes with their header; what is wrong with it. -/
def encZ (k : Int) (zs : List Int) : List Int := nums (hd k zs.length) ++ zs
def errE (k : Int) (n : Nat) : Int := if (kN k).toList.isEmpty = true then 20 else if 100000 < n then 11 else 0
theorem fits_err (k : Int) (n : Nat) (h : errE k n ≠ 0) : fitsV k n = .iface 35 (.int .i64 (errE k n)) := by
  unfold errE at h ⊢
  unfold fitsV
  by_cases h1 : (kN k).toList.isEmpty = true
  · rw [if_pos h1, if_pos h1]
  · rw [if_neg h1] at h
    rw [if_neg h1, if_neg h1]
    by_cases h2 : 100000 < n
    · rw [if_pos (by omega), if_pos h2]
    · rw [if_neg h2] at h; exact absurd rfl h
theorem fits_ok (k : Int) (n : Nat) (h : errE k n = 0) : fitsV k n = .nilIface ∧ n ≤ 100000 := by
  unfold errE at h
  unfold fitsV
  by_cases h1 : (kN k).toList.isEmpty = true
  · rw [if_pos h1] at h; cases h
  · rw [if_neg h1] at h
    rw [if_neg h1]
    by_cases h2 : 100000 < n
    · rw [if_pos h2] at h; cases h
    · exact ⟨by rw [if_neg (by omega)], by omega⟩
/-- What 'Encode' gives. -/
def PostE (k : Int) (zs : List Int) (w : World) (e : Ending) (w' : World) : Prop :=
  Below w.heap.size w w' ∧ ((errE k zs.length ≠ 0 ∧ e = .returned (.tuple #[.slice none 0 0, .iface 35 (.int .i64 (errE k zs.length))])) ∨
    (errE k zs.length = 0 ∧ ∃ g cap' : Nat, e = .returned (.tuple #[.slice (some ⟨g, 0, none⟩) (encZ k zs).length cap', .nilIface]) ∧ w.heap.size ≤ g ∧ g < w'.heap.size ∧ At w' g 0 (encZ k zs) ∧ (encZ k zs).length ≤ cap'))
set_option maxRecDepth 20000 in
set_option maxHeartbeats 2000000 in
theorem encode_any (k : Int) (a : Option Addr) (cap : Nat) (zs : List Int) (w : World) (ht : Tab w) (hl : zs.length ≤ 300000) (hS : Sl w a cap zs) :
    Calls Tryz.prog 9 #[.agg #[.int .i64 k, .slice a zs.length cap]] w (PostE k zs w) := by
  obtain ⟨n, HN⟩ : ∃ n, Hid (zs.length = n) := ⟨_, rfl⟩
  have HF : Hid (∀ w, Calls Tryz.prog 33 #[.agg #[.int .i64 k, .slice a n cap]] w fun e w' => e = .returned (fitsV k n) ∧ w' = w.alloc (.cells #[.int .i64 k, .slice a n cap] 25)) := fun w => fits_any k a n cap w
  by_cases he : errE k n = 0
  · obtain ⟨hfv, hn⟩ := fits_ok k n he
    rw [hfv] at HF
    obtain ⟨g0, HG0⟩ : ∃ g, Hid (w.heap.size = g) := ⟨_, rfl⟩
    obtain ⟨w1, HW1⟩ : ∃ w1, Hid ((w.alloc (.cells #[.int .i64 k, .slice a n cap] 25)).alloc (.cells #[.int .i64 k, .slice a n cap] 25) = w1) := ⟨_, rfl⟩
    have HB1 : Hid (Below g0 w w1) := by rw [← HW1.out, ← HG0.out]; exact ((Below.refl _ w).alloc (Nat.le_refl _) _).alloc (by simp) _
    have hg1 : g0 < w1.heap.size := by rw [← HW1.out, ← HG0.out]; simp; omega
    have hc0 : w1.cell? ⟨g0, 0, none⟩ = some (.int .i64 k) := by rw [← HW1.out, ← HG0.out]; simp
    have hc1 : w1.cell? ⟨g0, 1, none⟩ = some (.slice a n cap) := by rw [← HW1.out, ← HG0.out]; simp
    obtain ⟨S, HSS⟩ : ∃ S : ByteArray, Hid (S = ⟨(hd k n).toArray⟩) := ⟨_, rfl⟩
    obtain ⟨m, HM⟩ : ∃ m : Nat, Hid ((hd k n).length = m) := ⟨_, rfl⟩
    have hm14 : m ≤ 14 := by
      have := h0_len k n (by omega)
      rw [← HM.out, hd, List.length_append, List.length_singleton]
      omega
    have HH : Hid (∀ W, Below w1.heap.size w1 W → Calls Tryz.prog 34 #[.agg #[.int .i64 k, .slice a n cap]] W fun e w' => e = .returned (.string S) ∧ Below w1.heap.size w1 w') := fun W hW => by
      rw [HSS.out]
      refine (header_any k a n cap (by omega) W (ht.below (Below.trans (by rw [HG0.out]; exact HB1.out) (hW.mono (by rw [HG0.out]; omega))))).mono ?_
      rintro e w' ⟨rfl, hb⟩
      exact ⟨rfl, hW.trans (hb.mono hW.size)⟩
    have HCA : Hid (∀ w2, Below w1.heap.size w1 w2 → ∃ (c3 : Nat) (w3 : World) (g' cap' : Nat) (w4 : World), (convert 9 23 (.string S)).run Tryz.prog w2 = .ok (.slice (some ⟨w2.heap.size, 0, none⟩) m c3) w3 ∧
        (Builtin.append_ #[23, 23] 23 #[.slice (some ⟨w2.heap.size, 0, none⟩) m c3, .slice a n cap]).run Tryz.prog w3 = .ok (.slice (some ⟨g', 0, none⟩) (m + n : Nat) cap') w4 ∧ w3.cell? ⟨g0, 1, none⟩ = some (.slice a n cap) ∧
        Hid (Below g0 w w4 ∧ g0 ≤ g' ∧ g' < w4.heap.size ∧ At w4 g' 0 (encZ k zs) ∧ m + n ≤ cap')) := fun w2 h2 => by
      obtain ⟨c3, w3, hr3, hm3, hb3, hs3⟩ := conv_mk (hd k n) w2
      rw [HM.out, ← HSS.out] at hr3
      have hb23 : Below g0 w w2 := HB1.out.trans (h2.mono (by omega))
      have h2s := h2.size
      have hb03 : Below g0 w w3 := hb23.trans (hb3.mono (by omega))
      obtain ⟨g', cap', w4, hr4, hat, hcap, hlt, hg, hgr⟩ := app_mk w3 w2.heap.size c3 (nums (hd k n)) zs a cap hm3 (hS.below (by rw [HG0.out]; exact hb03)) (by rw [nums_len, HM.out]; omega)
      rw [nums_len, HM.out, HN.out] at hr4
      refine ⟨c3, w3, g', cap', w4, hr3, hr4, (hb3.cell (p := ⟨g0, 1, none⟩) (show g0 < w2.heap.size by omega)).trans ((h2.cell (p := ⟨g0, 1, none⟩) hg1).trans hc1), hb03.grown hgr (by omega) (fun q hq => by cases hq; omega), by omega, hlt, ?_, ?_⟩
      · unfold encZ; rw [HN.out]; exact hat
      · rw [nums_len, HM.out, HN.out] at hcap; exact hcap
    rw [HN.out]
    go_enter Tryz.func9, Tryz.ntmps9
    go_wp2_with (go_at_call 33; refine (HF.out _).mono ?_; rintro ev w' ⟨rfl, rfl⟩)
    rw [HW1.out, HG0.out]
    clear ht hS
    go_region_law (first
      | (refine step_call1 (by rfl) 34 10 25 (.agg #[.int .i64 k, .slice a n cap]) (.string S) (fun w' => Below w1.heap.size w1 w') (by rfl) (by rfl) enter34 (HH.out _ ⟨rfl, rfl, rfl, Nat.le_refl _, fun _ _ => rfl⟩) ?_; intro w2 hb2; have hc2 : w2.cell? ⟨g0, 1, none⟩ = some (.slice a n cap) := (hb2.cell (p := ⟨g0, 1, none⟩) hg1).trans hc1; obtain ⟨c3, w3, g', cap', w4, hr3, hr4, hc3, HE⟩ := HCA.out w2 hb2; clear hb2)
      | (refine step_conv (by rfl) 9 23 _ _ _ _ (by rfl) (by rfl) hr3 ?_)
      | (refine step_append (by rfl) _ _ 23 _ _ _ _ (by rfl) (by rfl) (by rfl) hr4 ?_))
    all_goals
      go_wp2
      go_ret2
      obtain ⟨e1, e2, e3, e4, e5⟩ := HE.out
      have hlen : (encZ k zs).length = m + n := by unfold encZ; rw [List.length_append, nums_len, HN.out, HM.out]
      refine ⟨by rw [HG0.out]; exact e1, .inr ⟨by rw [HN.out]; exact he, g', cap', ?_, by rw [HG0.out]; exact e2, e3, e4, by omega⟩⟩
      rw [hlen]
      rfl
  · have hfv := fits_err k n he
    rw [hfv] at HF
    rw [HN.out]
    obtain ⟨er, HER⟩ : ∃ er, Hid (er = errE k n) := ⟨_, rfl⟩
    rw [← HER.out] at HF
    have HB1 : Hid (Below w.heap.size w ((w.alloc (.cells #[.int .i64 k, .slice a n cap] 25)).alloc (.cells #[.int .i64 k, .slice a n cap] 25))) := ((Below.refl _ w).alloc (Nat.le_refl _) _).alloc (by simp) _
    go_enter Tryz.func9, Tryz.ntmps9
    go_wp2_with (go_at_call 33; refine (HF.out _).mono ?_; rintro ev w' ⟨rfl, rfl⟩)
    go_ret2
    refine ⟨HB1.out, .inl ⟨by rw [HN.out]; exact he, ?_⟩⟩
    rw [HN.out, ← HER.out]
    rfl
end Go.Proofs.YtbpdielmdhhdfaaGreatDoor
/- Package object: 'kindOf'. -/
namespace Go.Proofs.YtbpdielmdhhdfaaGreatDoor
open Go.RowKit
set_option linter.unusedVariables false
set_option linter.unusedSimpArgs false
/-- 3.1: the kind of a name; none: 0. -/
def kO (s : ByteArray) (k : Nat) : Prop := (1 ≤ k ∧ k ≤ 4 ∧ ((kN k).toList == s.toList) = true) ∨ (k = 0 ∧ ∀ i : Nat, 1 ≤ i → i ≤ 4 → ((kN i).toList == s.toList) = false)
set_option maxRecDepth 20000 in
theorem kindOf_any (s : ByteArray) (w : World) : Calls Tryz.prog 83 #[.string s] w fun e w' => (∃ k : Nat, e = .returned (.int .i64 k) ∧ kO s k) ∧ w' = w := by
  go_enter Tryz.func83, Tryz.ntmps83
  go_wp2_with fail
  go_loopg [3] 4 (fun g v wr => ∃ j : Nat, 1 ≤ j ∧ j ≤ 5 ∧ v = .int .i64 j ∧ g = 5 - j ∧ wr = w ∧ Hid (∀ i : Nat, 1 ≤ i → i < j → ((kN i).toList == s.toList) = false))
  case atStart => exact ⟨1, by omega, by omega, rfl, rfl, rfl, fun i h1 h2 => by omega⟩
  case round =>
    obtain ⟨j, h1, h5, rfl, hk, rfl, HN⟩ := hrel
    by_cases h4 : j ≤ 4
    · have h4I : (j : Int) ≤ 4 := by omega
      cases he : ((kN j).toList == s.toList) with
      | true =>
        go_wp2_with (go_at_call 65; refine (kindName_any _ _).mono ?_; rintro ev w1 ⟨rfl, rfl⟩)
        go_ret
        exact ⟨⟨j, rfl, .inl ⟨h1, h4, he⟩⟩, rfl⟩
      | false =>
        go_wp2_with (go_at_call 65; refine (kindName_any _ _).mono ?_; rintro ev w1 ⟨rfl, rfl⟩)
        go_roundg (5 - (j + 1))
        case measure => omega
        case rel => exact ⟨j + 1, by omega, by omega, by go_num, rfl, rfl, fun i g1 g2 => by
          by_cases hij : i = j
          · subst hij; exact he
          · exact HN.out i g1 (by omega)⟩
    · have h4I : ¬ (j : Int) ≤ 4 := by omega
      go_wp2
      go_ret
      exact ⟨⟨0, rfl, .inr ⟨rfl, fun i g1 g2 => HN.out i g1 (by omega)⟩⟩, rfl⟩
end Go.Proofs.YtbpdielmdhhdfaaGreatDoor
