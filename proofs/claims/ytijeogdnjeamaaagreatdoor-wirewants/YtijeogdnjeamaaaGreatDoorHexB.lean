/- 'Hex' of the document. -/
import Derived.Test.YtijeogdnjeamaaaGreatDoorHexA
namespace Go.Proofs.YtijeogdnjeamaaaGreatDoor.Hx
open Go.RowKit
set_option linter.unusedVariables false

theorem ret_int {k : IntKind} {a b : Int} (h : a = b) : Ending.returned (.int k a) = .returned (.int k b) := by rw [h]
theorem step_call {P : Program} {ops : Array Oper} {o : Oper} {a : Act} {w : World} {K : Act → World → Prop} {Q : Exit → Act → World → Prop} {E : Prop} (hg : o.guard = none) (f : FuncId) (s : Tmp) (t : TypeId) (v r : Value)
    (ho : o.op = .call { callee := .value (.func f), args := #[.tmp s], argTypes := #[t] }) (hx : a.eval (.tmp s) = v) (hent : ∀ (v : Value) (w : World), (callFunc f #[v]).run P w = .ok (.enter f #[v]) w)
    (hc : Calls P f #[v] w fun e w' => e = .returned r ∧ w' = w) (h : K (a.put o.dst r) w) :
    if Region.wanted o (yielded ops a.tmps) = true then Oper.wp P o a w K Q else E := by
  have hw : Region.wanted o (yielded ops a.tmps) = true := by simp [Region.wanted, hg]
  rw [if_pos hw]
  have hx' : a.tmps[s]?.getD undef = v := by simpa [Act.eval] using hx
  unfold Oper.wp
  simp [execOp, ho, resolve, invoke, go_sem]
  rw [hx', hent, Oper.upon_enter]
  refine hc.mono ?_
  rintro e w' ⟨rfl, rfl⟩
  exact h
theorem wrap_u8 (n : Int) (h0 : 0 ≤ n) (h1 : n < 256) : IntKind.u8.wrap n = n := by
  obtain ⟨m, rfl⟩ := Int.eq_ofNat_of_zero_le h0
  have : ∀ m : Nat, m < 256 → IntKind.u8.wrap (m : Int) = m := by decide +kernel
  exact this m (by omega)
theorem below_alloc {w w' : World} {o : Obj} (h : Below (w.heap.size + 1) (w.alloc o) w') : Below w.heap.size w w' :=
  ((Below.refl _ w).alloc (Nat.le_refl _) o).trans (h.mono (Nat.le_succ _))
theorem enter61 (v : Value) (w : World) : (callFunc 61 #[v]).run Tryz.prog w = .ok (.enter 61 #[v]) w := by kernel_rfl
set_option maxHeartbeats 1000000 in
theorem digit_any (n : Int) (w : World) (h0 : 0 ≤ n) (h1 : n < 16) : Calls Tryz.prog 61 #[.int .u8 n] w fun e w' => e = .returned (.int .u8 (dig n)) ∧ w' = w := by
  have hd : dig n = if n < 10 then 48 + n else 87 + n := rfl
  by_cases h : n < 10
  · rw [if_pos h] at hd
    go_enter Tryz.func61, Tryz.ntmps61
    go_wp2
    go_ret
    exact ⟨ret_int (by first | (rw [hd]; done) | (rw [hd]; omega) | go_num), rfl⟩
  · rw [if_neg h] at hd
    go_enter Tryz.func61, Tryz.ntmps61
    go_wp2
    go_ret
    exact ⟨ret_int (by omega), rfl⟩
set_option maxRecDepth 20000 in
set_option maxHeartbeats 1000000 in
theorem hex_ref (zs : List Int) (w : World) (hl : zs.length = 20) (hz : ∀ n ∈ zs, 0 ≤ n ∧ n < 256) :
    Calls Tryz.prog 34 #[.agg (row zs).toArray] w fun e w' => e = .returned (.string (strOfNums (hexOf zs))) ∧ Below w.heap.size w w' := by
  obtain ⟨i5, hi, hz0, hz1, hz2⟩ := info_parts Tryz.info5
  obtain ⟨arr, HA⟩ : ∃ arr, Hid (arr = row zs) := ⟨_, rfl⟩
  rw [← HA.out]
  have hsz : arr.toArray.size = 20 := by rw [HA.out, List.size_toArray, row_len]; exact hl
  have HB0 : Hid (Below w.heap.size w (w.alloc (.cells arr.toArray 67))) := (Below.refl _ w).alloc (Nat.le_refl _) _
  have HC0 : Hid (∀ i, i < 20 → (w.alloc (.cells arr.toArray 67)).cell? ⟨w.heap.size, i, none⟩ = some (.int .u8 (zs.getD i 0))) := fun i hi => row_cell (zs := zs) (t := 67) (fr := (0, 0)) (by rw [HA.out]; exact heap_alloc_new w _) i (by omega)
  go_enter Tryz.func34, Tryz.ntmps34
  go_wp2
  go_loopg [3, 4] 20 (fun k s i wr => ∃ j cp : Nat, ∃ a : Option Addr, j ≤ 20 ∧ k = 20 - j ∧ i = .int .i64 j ∧ s = .slice a (2 * j) cp ∧ wr.ownsRow (w.heap.size + 1) 5 1 (.slice a (2 * j) cp) (2 * j) ((hexOf (zs.take j)).map (Value.int .u8)) ∧ Hid (Below (w.heap.size + 1) (w.alloc (.cells arr.toArray 67)) wr))
  case atStart => exact ⟨0, 0, none, by omega, rfl, rfl, rfl, World.ownsRow_nil _ _ _ _, Below.refl _ _⟩
  case round =>
    obtain ⟨j, cp, a, hj, hk, rfl, rfl, hown, HB⟩ := hrel
    by_cases hlt : j < 20
    · obtain ⟨x, HX⟩ : ∃ x, Hid (x = zs.getD j 0) := ⟨_, rfl⟩
      have hc : wr.cell? ⟨w.heap.size, j, none⟩ = some (.int .u8 x) := by rw [HX.out]; exact (HB.out.cell (p := ⟨w.heap.size, j, none⟩) (by simp)).trans (HC0.out j hlt)
      have hx := hz x (by rw [HX.out, List.getD_eq_getElem?_getD, List.getElem?_eq_getElem (by omega)]; exact List.getElem_mem _)
      obtain ⟨p, HP⟩ : ∃ p, Hid (p = x / 16) := ⟨_, rfl⟩
      obtain ⟨q, HQ⟩ : ∃ q, Hid (q = x % 16) := ⟨_, rfl⟩
      have hp0 : x / 16 = p := HP.out.symm
      have hq0 : x % 16 = q := HQ.out.symm
      have hp : IntKind.u8.wrap (x.tdiv 16) = p := by rw [Int.tdiv_eq_ediv_of_nonneg hx.1, hp0]; exact wrap_u8 p (by omega) (by omega)
      have hq : x.tmod 16 = q := by rw [Int.tmod_eq_emod_of_nonneg hx.1, hq0]
      have hdp : ∀ w1, Calls Tryz.prog 61 #[.int .u8 p] w1 fun e w' => e = .returned (.int .u8 (dig p)) ∧ w' = w1 := fun w1 => digit_any p w1 (by omega) (by omega)
      have hdq : ∀ w1, Calls Tryz.prog 61 #[.int .u8 q] w1 fun e w' => e = .returned (.int .u8 (dig q)) ∧ w' = w1 := fun w1 => digit_any q w1 (by omega) (by omega)
      obtain ⟨dp, HDP⟩ : ∃ d, Hid (d = dig p) := ⟨_, rfl⟩
      obtain ⟨dq, HDQ⟩ : ∃ d, Hid (d = dig q) := ⟨_, rfl⟩
      rw [← HDP.out] at hdp
      rw [← HDQ.out] at hdq
      go_wp2
      go_region_law (first
        | (refine step_call (by rfl) 61 13 5 (.int .u8 p) (.int .u8 dp) (by rfl) (by rfl) enter61 (hdp _) ?_)
        | (refine step_call (by rfl) 61 18 5 (.int .u8 q) (.int .u8 dq) (by rfl) (by rfl) enter61 (hdq _) ?_)
        | (refine step_append_lies _ (by rfl) _ _ _ (by rfl) (w.heap.size + 1) 5 i5 (.int .u8 0) 1 1 Tryz.underlying25 hi hz0 hz1 hz2 rfl (by omega) (.slice a (2 * j) cp) (2 * j) ((hexOf (zs.take j)).map (Value.int .u8)) (by rfl) (by exact hown.alloc _) ⟨wr.heap.size, 0, none⟩ 2 2 [.int .u8 dp, .int .u8 dq] (by rfl) (by rfl) (by intro j u hj; match j, hj with | 0, hj => simp at hj; subst hj; simp [Addr.add] | 1, hj => simp at hj; subst hj; simp [Addr.add]) (by intro u hu; simp at hu; rcases hu with rfl | rfl <;> rfl) (by omega) (by unfold maxLen; omega) (by omega) (by have := HB.out.size; simp at this ⊢; omega) (wr.heap.size + 1) (by simp) ?_; intro g2 cp2 w3 hown1 hgrow hat hlt))
      all_goals
        have HB2 : Hid (Below (w.heap.size + 1) (w.alloc (.cells arr.toArray 67)) w3) := below_step HB.out (by simp) (grownBy_allocD wr _ none) hgrow (fun k hk => (own_lt hown k hk).1)
        have HO : Hid (w3.ownsRow (w.heap.size + 1) 5 1 (.slice (some ⟨g2, 0, none⟩) (2 * (j + 1)) cp2) (2 * (j + 1)) ((hexOf (zs.take (j + 1))).map (Value.int .u8))) := by
          show World.ownsRow _ _ _ _ _ _ _
          rw [take_snoc zs j (by omega), hexOf_snoc, List.map_append, ← HX.out, ← HP.out, ← HQ.out, List.map_cons, List.map_cons, List.map_nil, ← HDP.out, ← HDQ.out]
          exact hown1
        clear hown1 hgrow hat hown
        go_wp2
        go_roundg (20 - (j + 1))
        case measure => omega
        case rel => exact ⟨j + 1, cp2, _, by omega, rfl, by go_num, rfl, HO.out, HB2⟩
    · obtain rfl : j = 20 := by omega
      obtain ⟨g, cp, hcg⟩ : ∃ g cp', Value.slice a 40 cp = .slice (some ⟨g, 0, none⟩) 40 cp' := by
        obtain ⟨g, cp', h1, -, -⟩ := hown.form (by omega)
        exact ⟨g, cp', h1⟩
      simp only [Value.slice.injEq, true_and] at hcg
      obtain ⟨rfl, rfl⟩ := hcg
      have hcv : ∀ dst, Tryz.prog.underlying dst = some .string → (convert 25 dst (.slice (some ⟨g, 0, none⟩) 40 cp)).run Tryz.prog wr = .ok (.string (strOfNums (hexOf zs))) wr :=
        run_convert_bytes_arg wr 25 5 Tryz.underlying25 Tryz.underlying5 g 0 40 cp (hexOf zs) (by rw [hexOf_len]; omega) fun i hi => by
          rw [Nat.zero_add, hown.cellAt i (by omega), List.take_of_length_le (by omega), List.getElem?_map, List.getElem?_eq_getElem (by rw [hexOf_len]; omega)]
          simp [show i < (hexOf zs).length by rw [hexOf_len]; omega]
      have hcv9 := hcv 9 Tryz.underlying9
      clear hcv hown
      go_wp2
      go_ret
      exact ⟨rfl, below_alloc HB.out⟩
end Go.Proofs.YtijeogdnjeamaaaGreatDoor.Hx
