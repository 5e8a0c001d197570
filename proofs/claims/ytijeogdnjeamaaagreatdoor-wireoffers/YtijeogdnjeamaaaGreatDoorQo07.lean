import Derived.Test.YtijeogdnjeamaaaGreatDoorQo06
import Derived.Test.YtijeogdnjeamaaaGreatDoorQo03
namespace Go.Proofs.YtijeogdnjeamaaaGreatDoor.Hx
open Go.RowKit
set_option linter.unusedVariables false
theorem ret_int {k : IntKind} {a b : Int} (h : a = b) : Ending.returned (.int k a) = .returned (.int k b) := by rw [h]
theorem step_call {P : Program} {ops : Array Oper} {o : Oper} {a : Act} {w : World} {K : Act → World → Prop} {Q : Exit → Act → World → Prop} {E : Prop} (hg : o.guard = none) (f : FuncId) (s : Tmp) (t : TypeId) (v r : Value)
    (ho : o.op = .call { callee := .value (.func f), args := #[.tmp s], argTypes := #[t] }) (hx : a.eval (.tmp s) = v) (hent : ∀ (v : Value) (w : World), (callFunc f #[v]).run P w = .ok (.enter f #[v]) w)
    (hc : Calls P f #[v] w fun e w' => e = .returned r ∧ w' = w) (h : K (a.put o.dst r) w) :
    if Region.wanted o (yielded ops a.tmps) = true then Oper.wp P o a w K Q else E := by
  have hw : Region.wanted o (yielded ops a.tmps) = true := by simp [Region.wanted, hg]
  rw [if_pos hw]
  have hx' : a.tmps[s]?.getD undef = v := by simpa [Act.eval] using hx
  unfold Oper.wp
  simp [execOp, ho, resolve, invoke, go_sem]
  rw [hx', hent, Oper.upon_enter]
  refine hc.mono ?_
  rintro e w' ⟨rfl, rfl⟩
  exact h
theorem wrap_u8 (n : Int) (h0 : 0 ≤ n) (h1 : n < 256) : IntKind.u8.wrap n = n := by
  obtain ⟨m, rfl⟩ := Int.eq_ofNat_of_zero_le h0
  have : ∀ m : Nat, m < 256 → IntKind.u8.wrap (m : Int) = m := by decide +kernel
  exact this m (by omega)
theorem below_alloc {w w' : World} {o : Obj} (h : Below (w.heap.size + 1) (w.alloc o) w') : Below w.heap.size w w' :=
  ((Below.refl _ w).alloc (Nat.le_refl _) o).trans (h.mono (Nat.le_succ _))
theorem enter61 (v : Value) (w : World) : (callFunc 61 #[v]).run Tryz.prog w = .ok (.enter 61 #[v]) w := by kernel_rfl
set_option maxHeartbeats 1000000 in
theorem digit_any (n : Int) (w : World) (h0 : 0 ≤ n) (h1 : n < 16) : Calls Tryz.prog 61 #[.int .u8 n] w fun e w' => e = .returned (.int .u8 (dig n)) ∧ w' = w := by
  have hd : dig n = if n < 10 then 48 + n else 87 + n := rfl
  by_cases h : n < 10
  · rw [if_pos h] at hd
    go_enter Tryz.func61, Tryz.ntmps61
    go_wp2
    go_ret
    exact ⟨ret_int (by first | (rw [hd]; done) | (rw [hd]; omega) | go_num), rfl⟩
  · rw [if_neg h] at hd
    go_enter Tryz.func61, Tryz.ntmps61
    go_wp2
    go_ret
    exact ⟨ret_int (by omega), rfl⟩
set_option maxRecDepth 20000 in
set_option maxHeartbeats 1000000 in
theorem hex_ref (zs : List Int) (w : World) (hl : zs.length = 20) (hz : ∀ n ∈ zs, 0 ≤ n ∧ n < 256) :
    Calls Tryz.prog 34 #[.agg (row zs).toArray] w fun e w' => e = .returned (.string (strOfNums (hexOf zs))) ∧ Below w.heap.size w w' := by
  obtain ⟨i5, hi, hz0, hz1, hz2⟩ := info_parts Tryz.info5
  obtain ⟨arr, HA⟩ : ∃ arr, Hid (arr = row zs) := ⟨_, rfl⟩
  rw [← HA.out]
  have hsz : arr.toArray.size = 20 := by rw [HA.out, List.size_toArray, row_len]; exact hl
  have HB0 : Hid (Below w.heap.size w (w.alloc (.cells arr.toArray 67))) := (Below.refl _ w).alloc (Nat.le_refl _) _
  have HC0 : Hid (∀ i, i < 20 → (w.alloc (.cells arr.toArray 67)).cell? ⟨w.heap.size, i, none⟩ = some (.int .u8 (zs.getD i 0))) := fun i hi => row_cell (zs := zs) (t := 67) (fr := (0, 0)) (by rw [HA.out]; exact heap_alloc_new w _) i (by omega)
  go_enter Tryz.func34, Tryz.ntmps34
  go_wp2
  go_loopg [3, 4] 20 (fun k s i wr => ∃ j cp : Nat, ∃ a : Option Addr, j ≤ 20 ∧ k = 20 - j ∧ i = .int .i64 j ∧ s = .slice a (2 * j) cp ∧ wr.ownsRow (w.heap.size + 1) 5 1 (.slice a (2 * j) cp) (2 * j) ((hexOf (zs.take j)).map (Value.int .u8)) ∧ Hid (Below (w.heap.size + 1) (w.alloc (.cells arr.toArray 67)) wr))
  case atStart => exact ⟨0, 0, none, by omega, rfl, rfl, rfl, World.ownsRow_nil _ _ _ _, Below.refl _ _⟩
  case round =>
    obtain ⟨j, cp, a, hj, hk, rfl, rfl, hown, HB⟩ := hrel
    by_cases hlt : j < 20
    · obtain ⟨x, HX⟩ : ∃ x, Hid (x = zs.getD j 0) := ⟨_, rfl⟩
      have hc : wr.cell? ⟨w.heap.size, j, none⟩ = some (.int .u8 x) := by rw [HX.out]; exact (HB.out.cell (p := ⟨w.heap.size, j, none⟩) (by simp)).trans (HC0.out j hlt)
      have hx := hz x (by rw [HX.out, List.getD_eq_getElem?_getD, List.getElem?_eq_getElem (by omega)]; exact List.getElem_mem _)
      obtain ⟨p, HP⟩ : ∃ p, Hid (p = x / 16) := ⟨_, rfl⟩
      obtain ⟨q, HQ⟩ : ∃ q, Hid (q = x % 16) := ⟨_, rfl⟩
      have hp0 : x / 16 = p := HP.out.symm
      have hq0 : x % 16 = q := HQ.out.symm
      have hp : IntKind.u8.wrap (x.tdiv 16) = p := by rw [Int.tdiv_eq_ediv_of_nonneg hx.1, hp0]; exact wrap_u8 p (by omega) (by omega)
      have hq : x.tmod 16 = q := by rw [Int.tmod_eq_emod_of_nonneg hx.1, hq0]
      have hdp : ∀ w1, Calls Tryz.prog 61 #[.int .u8 p] w1 fun e w' => e = .returned (.int .u8 (dig p)) ∧ w' = w1 := fun w1 => digit_any p w1 (by omega) (by omega)
      have hdq : ∀ w1, Calls Tryz.prog 61 #[.int .u8 q] w1 fun e w' => e = .returned (.int .u8 (dig q)) ∧ w' = w1 := fun w1 => digit_any q w1 (by omega) (by omega)
      obtain ⟨dp, HDP⟩ : ∃ d, Hid (d = dig p) := ⟨_, rfl⟩
      obtain ⟨dq, HDQ⟩ : ∃ d, Hid (d = dig q) := ⟨_, rfl⟩
      rw [← HDP.out] at hdp
      rw [← HDQ.out] at hdq
      go_wp2
      go_region_law (first
        | (refine step_call (by rfl) 61 13 5 (.int .u8 p) (.int .u8 dp) (by rfl) (by rfl) enter61 (hdp _) ?_)
        | (refine step_call (by rfl) 61 18 5 (.int .u8 q) (.int .u8 dq) (by rfl) (by rfl) enter61 (hdq _) ?_)
        | (refine step_append_lies _ (by rfl) _ _ _ (by rfl) (w.heap.size + 1) 5 i5 (.int .u8 0) 1 1 Tryz.underlying25 hi hz0 hz1 hz2 rfl (by omega) (.slice a (2 * j) cp) (2 * j) ((hexOf (zs.take j)).map (Value.int .u8)) (by rfl) (by exact hown.alloc _) ⟨wr.heap.size, 0, none⟩ 2 2 [.int .u8 dp, .int .u8 dq] (by rfl) (by rfl) (by intro j u hj; match j, hj with | 0, hj => simp at hj; subst hj; simp [Addr.add] | 1, hj => simp at hj; subst hj; simp [Addr.add]) (by intro u hu; simp at hu; rcases hu with rfl | rfl <;> rfl) (by omega) (by unfold maxLen; omega) (by omega) (by have := HB.out.size; simp at this ⊢; omega) (wr.heap.size + 1) (by simp) ?_; intro g2 cp2 w3 hown1 hgrow hat hlt))
      all_goals
        have HB2 : Hid (Below (w.heap.size + 1) (w.alloc (.cells arr.toArray 67)) w3) := below_step HB.out (by simp) (grownBy_allocD wr _ none) hgrow (fun k hk => (own_lt hown k hk).1)
        have HO : Hid (w3.ownsRow (w.heap.size + 1) 5 1 (.slice (some ⟨g2, 0, none⟩) (2 * (j + 1)) cp2) (2 * (j + 1)) ((hexOf (zs.take (j + 1))).map (Value.int .u8))) := by
          show World.ownsRow _ _ _ _ _ _ _
          rw [take_snoc zs j (by omega), hexOf_snoc, List.map_append, ← HX.out, ← HP.out, ← HQ.out, List.map_cons, List.map_cons, List.map_nil, ← HDP.out, ← HDQ.out]
          exact hown1
        clear hown1 hgrow hat hown
        go_wp2
        go_roundg (20 - (j + 1))
        case measure => omega
        case rel => exact ⟨j + 1, cp2, _, by omega, rfl, by go_num, rfl, HO.out, HB2⟩
    · obtain rfl : j = 20 := by omega
      obtain ⟨g, cp, hcg⟩ : ∃ g cp', Value.slice a 40 cp = .slice (some ⟨g, 0, none⟩) 40 cp' := by
        obtain ⟨g, cp', h1, -, -⟩ := hown.form (by omega)
        exact ⟨g, cp', h1⟩
      simp only [Value.slice.injEq, true_and] at hcg
      obtain ⟨rfl, rfl⟩ := hcg
      have hcv : ∀ dst, Tryz.prog.underlying dst = some .string → (convert 25 dst (.slice (some ⟨g, 0, none⟩) 40 cp)).run Tryz.prog wr = .ok (.string (strOfNums (hexOf zs))) wr :=
        run_convert_bytes_arg wr 25 5 Tryz.underlying25 Tryz.underlying5 g 0 40 cp (hexOf zs) (by rw [hexOf_len]; omega) fun i hi => by
          rw [Nat.zero_add, hown.cellAt i (by omega), List.take_of_length_le (by omega), List.getElem?_map, List.getElem?_eq_getElem (by rw [hexOf_len]; omega)]
          simp [show i < (hexOf zs).length by rw [hexOf_len]; omega]
      have hcv9 := hcv 9 Tryz.underlying9
      clear hcv hown
      go_wp2
      go_ret
      exact ⟨rfl, below_alloc HB.out⟩
end Go.Proofs.YtijeogdnjeamaaaGreatDoor.Hx
namespace Go.Proofs.YtijeogdnjeamaaaGreatDoor.Hx
open Go.RowKit
set_option linter.unusedVariables false
def hv (c : Int) : Int := if 48 ≤ c ∧ c ≤ 57 then c - 48 else if 97 ≤ c ∧ c ≤ 102 then c - 87 else -1
def sgn (s : ByteArray) (k : Nat) : Int := (s.data.toList.getD k 0).toNat
def zeros : List Int := List.replicate 20 0
def idAt (s : ByteArray) : Nat → List Int
  | 0 => zeros
  | k + 1 => (idAt s k).set (k / 2) (((idAt s k).getD (k / 2) 0 * 16 + hv (sgn s k)) % 256)
theorem idAt_len (s : ByteArray) : ∀ k, (idAt s k).length = 20
  | 0 => rfl
  | k + 1 => by rw [idAt, List.length_set, idAt_len s k]
theorem sgn_bd (s : ByteArray) (k : Nat) : 0 ≤ sgn s k ∧ sgn s k < 256 := by
  unfold sgn
  have := (s.data.toList.getD k 0).toNat_lt
  omega
theorem idAt_bd (s : ByteArray) : ∀ k, ∀ n ∈ idAt s k, 0 ≤ n ∧ n < 256
  | 0 => by intro n hn; simp [idAt, zeros] at hn; omega
  | k + 1 => by
    intro n hn
    rcases List.mem_or_eq_of_mem_set hn with h | h
    · exact idAt_bd s k n h
    · omega
def good (s : ByteArray) : Prop := ∀ k, k < 40 → 0 ≤ hv (sgn s k)
theorem firstIdx_digs (c : Int) (h0 : 0 ≤ c) (h1 : c < 256) : firstIdx { data := #[48, 49, 50, 51, 52, 53, 54, 55, 56, 57, 97, 98, 99, 100, 101, 102] } c.toNat.toUInt8 = hv c := by
  obtain ⟨n, rfl⟩ := Int.eq_ofNat_of_zero_le h0
  have : ∀ n : Nat, n < 256 → firstIdx { data := #[48, 49, 50, 51, 52, 53, 54, 55, 56, 57, 97, 98, 99, 100, 101, 102] } ((n : Int).toNat.toUInt8) = hv n := by decide +kernel
  exact this n (by omega)
set_option maxHeartbeats 1000000 in
theorem indexByte_in (c : Int) (w : World) (h0 : 0 ≤ c) (h1 : c < 256) :
    Calls Tryz.prog 135 #[.string { data := #[48, 49, 50, 51, 52, 53, 54, 55, 56, 57, 97, 98, 99, 100, 101, 102] }, .int .u8 c] w fun e w' => e = .returned (.int .i64 (hv c)) ∧ w' = w := by
  have h17 := @run_callFunc_extern Tryz.prog 154 _ Extern.BytealgIndexByte.indexByte Tryz.func154 (by kernel_rfl) (by kernel_rfl) (by kernel_rfl) (by kernel_rfl)
  have hr := run_indexByte_string (P := Tryz.prog) { data := #[48, 49, 50, 51, 52, 53, 54, 55, 56, 57, 97, 98, 99, 100, 101, 102] } c
  rw [firstIdx_digs c h0 h1] at hr
  go_enter Tryz.func135, Tryz.ntmps135
  go_wp2
  go_ret
  exact ⟨rfl, rfl⟩
theorem indexByte_any (c : Int) (w : World) (h0 : 0 ≤ c) (h1 : c < 256) :
    Calls Tryz.prog 131 #[.string { data := #[48, 49, 50, 51, 52, 53, 54, 55, 56, 57, 97, 98, 99, 100, 101, 102] }, .int .u8 c] w fun e w' => e = .returned (.int .i64 (hv c)) ∧ w' = w := by
  have HF := hid (indexByte_in c w h0 h1)
  go_enter Tryz.func131, Tryz.ntmps131
  go_wp2_with fail
  refine HF.out.mono ?_
  rintro e w1 ⟨rfl, hw⟩
  rw [hw]
  go_wp2
  go_ret
  exact ⟨rfl, rfl⟩
theorem results_mid2 {P : Program} {fn : Func} {p q : Tmp} {ty : TypeId} {t2 : TypeId} (h : fn.results = #[.cell p ty, .tmp q]) (tmps : Array Value) (w : World) (g : Nat) (cs : List Value) (d : TypeDesc) (v : Value)
    (hp : tmps.getD p undef = .pointer (some ⟨g, 0, none⟩)) (hq : tmps.getD q undef = v) (hc : w.rangeAt g 0 cs) (hu : P.underlying ty = some d) (hd : d.isRow = true) (hi : (P.info? ty).map (·.size) = some cs.length) :
    (results fn tmps).run P w = .ok (.tuple #[.agg cs.toArray, v]) w := by
  have hp' : tmps[p]?.getD undef = .pointer (some ⟨g, 0, none⟩) := by simpa using hp
  have hq' : tmps[q]?.getD undef = v := by simpa using hq
  simp [results, h, hp', hq', asAddr, run_loadVar_mid w g 0 ty cs d hc hu hd hi]
end Go.Proofs.YtijeogdnjeamaaaGreatDoor.Hx
namespace Go.Proofs.YtijeogdnjeamaaaGreatDoor.Hx
open Go.RowKit
set_option linter.unusedVariables false
theorem hv_neg (c : Int) (h : ¬ 0 ≤ hv c) : hv c = -1 := by
  unfold hv at h ⊢
  by_cases a : 48 ≤ c ∧ c ≤ 57
  · rw [if_pos a] at h; omega
  · rw [if_neg a] at h ⊢
    by_cases b : 97 ≤ c ∧ c ≤ 102
    · rw [if_pos b] at h; omega
    · rw [if_neg b]
theorem index_sgn (s : ByteArray) (j : Nat) (w : World) (h : j < s.size) : (Instr.index 9 (.string s) (.int .i64 j)).run Tryz.prog w = .ok (.int .u8 (sgn s j)) w := by
  rw [run_index_string (P := Tryz.prog) w 9 s .i64 j Tryz.underlying9, dif_pos ⟨by omega, by omega⟩]
  unfold sgn
  have hj : j < s.data.toList.length := by simpa using h
  simp only [Int.toNat_natCast, List.getD_eq_getElem?_getD, List.getElem?_eq_getElem hj, Option.getD_some]
  rfl
theorem below_setCells {B g : Nat} (hB : B ≤ g) : ∀ (vs : List Value) (o : Nat) (w0 w : World), Below B w0 w → Below B w0 (w.setCells g o vs)
  | [], _, _, _, h => h
  | v :: r, o, w0, _, h => below_setCells hB r (o + 1) w0 _ (h.setCell (p := ⟨g, o, none⟩) hB v)
theorem shl_or (a n : Int) (ha : 0 ≤ a ∧ a < 256) (hn : 0 ≤ n ∧ n < 16) : bits .or .u8 (a * 16 % 256) n = (a * 16 + n) % 256 := by
  obtain ⟨x, rfl⟩ := Int.eq_ofNat_of_zero_le ha.1
  obtain ⟨y, rfl⟩ := Int.eq_ofNat_of_zero_le hn.1
  have : ∀ y : Nat, y < 16 → ∀ x : Nat, x < 256 → bits .or .u8 ((x : Int) * 16 % 256) (y : Int) = ((x : Int) * 16 + y) % 256 := by decide +kernel
  exact this y (by omega) x (by omega)
set_option maxRecDepth 20000 in
set_option maxHeartbeats 1000000 in
theorem parse_prog (s : ByteArray) (w : World) (hl : s.size ≤ 300000) :
    Calls Tryz.prog 123 #[.string s] w fun e w' => Below w.heap.size w w' ∧ ((s.size = 40 ∧ good s → e = .returned (.tuple #[.agg (row (idAt s 40)).toArray, .nilIface])) ∧ (¬ (s.size = 40 ∧ good s) → e = .returned (.tuple #[.agg (row zeros).toArray, .iface 37 (.int .i64 12)]))) := by
  have hi2 : ∀ l : List Int, l.length = 20 → (Tryz.prog.info? 68).map (·.size) = some (row l).length := fun l h => by rw [row_len, h]; exact Tryz.info68
  obtain ⟨zr, HZ⟩ : ∃ zr, Hid (zr = row zeros) := ⟨_, rfl⟩
  by_cases h40 : s.size = 40
  · go_enter Tryz.func123, Tryz.ntmps123
    go_wp2
    go_loopg [14] 40 (fun k i wr => ∃ j : Nat, j ≤ 40 ∧ k = 40 - j ∧ i = .int .i64 j ∧ (∀ k, k < j → 0 ≤ hv (sgn s k)) ∧ Hid (wr.heap[w.heap.size + 1]? = some (.cells (row (idAt s j)).toArray 68 (0, 0))) ∧ Hid (wr.heap[w.heap.size]? = some (.cells (row zeros).toArray 68 (0, 0))) ∧ Hid (Below w.heap.size w wr))
    case atStart => exact ⟨0, by omega, rfl, rfl, fun k hk => by omega, heap_alloc2_new w _ _, heap_alloc2_old w _ _, ((Below.refl _ _).alloc (Nat.le_refl _) _).alloc (by simp) _⟩
    case round =>
      obtain ⟨j, hj, hk, rfl, hgd, H1, H0, HB⟩ := hrel
      by_cases hlt : j < 40
      · obtain ⟨c, HC⟩ : ∃ c, Hid (c = sgn s j) := ⟨_, rfl⟩
        have hix : ∀ w1 : World, (Instr.index 9 (.string s) (.int .i64 j)).run Tryz.prog w1 = .ok (.int .u8 c) w1 := fun w1 => by rw [HC.out]; exact index_sgn s j w1 (by omega)
        have hcb : 0 ≤ c ∧ c < 256 := by rw [HC.out]; exact sgn_bd s j
        by_cases hn : 0 ≤ hv c
        · obtain ⟨n, HN⟩ : ∃ n, Hid (n = hv c) := ⟨_, rfl⟩
          have hnb : 0 ≤ n ∧ n < 16 := by rw [HN.out]; refine ⟨hn, ?_⟩; unfold hv; split; omega; split <;> omega
          obtain ⟨x, HX⟩ : ∃ x, Hid (x = (idAt s j).getD (j / 2) 0) := ⟨_, rfl⟩
          have hcell : wr.cell? ⟨w.heap.size + 1, j / 2, none⟩ = some (.int .u8 x) := by rw [HX.out]; exact row_cell H1.out (j / 2) (by rw [idAt_len]; omega)
          have hfz := frozen_of_row wr (w.heap.size + 1) (j / 2) _ 68 H1.out
          have hxb : 0 ≤ x ∧ x < 256 := idAt_bd s j x (by rw [HX.out, List.getD_eq_getElem?_getD, List.getElem?_eq_getElem (by rw [idAt_len]; omega)]; exact List.getElem_mem _)
          obtain ⟨y, HY⟩ : ∃ y, Hid (y = (x * 16 + n) % 256) := ⟨_, rfl⟩
          have hor := shl_or x n hxb hnb
          rw [← HY.out] at hor
          have hwn : IntKind.u8.wrap n = n := wrap_u8 n hnb.1 (by omega)
          obtain ⟨m, HM⟩ : ∃ m, Hid (m = j / 2) := ⟨_, rfl⟩
          have hm : j / 2 = m := HM.out.symm
          have hm2 : m < 20 := by omega
          rw [hm] at hcell hfz
          go_wp2_with (go_at_call 131; refine (indexByte_any c _ hcb.1 hcb.2).mono ?_; rintro e w1 ⟨rfl, rfl⟩; rw [← HN.out])
          go_roundg (40 - (j + 1))
          case measure => omega
          case rel =>
            refine ⟨j + 1, by omega, rfl, by go_num, ?_, ?_, ?_, HB.out.setCell (by simp) _⟩
            · intro k hk
              rcases Nat.lt_or_ge k j with h | h
              · exact hgd k h
              · obtain rfl : k = j := by omega
                rw [← HC.out]; exact hn
            · show _ = _
              rw [heap_setCell_same w1 _ _ _ _ _ H1.out, idAt, ← row_set, ← HX.out, ← HC.out, ← HN.out, ← HY.out, hm, ← hor]
            · show _ = _
              rw [heap_setCell_other w1 _ _ _ (by simp)]; exact H0.out
        · have hneg : hv c = -1 := hv_neg c hn
          go_wp2_with (first | (go_at_call 131; refine (indexByte_any c _ hcb.1 hcb.2).mono ?_; rintro e w1 ⟨rfl, rfl⟩; rw [hneg]) | refine wpList_store_mid rfl 68 _ _ rfl w.heap.size 0 (row zeros).toArray rfl rfl ?t1 ?t2 ?t3 ?_)
          case t1 => exact there_row H0.out rfl
          case t2 => exact hi2 _ rfl
          case t3 => exact all_oneCell_toArray (row_one _)
          · refine bodyPost_ret (v := .tuple #[.agg (row zeros).toArray, .iface 37 (.int .i64 12)]) (results_mid2 (t2 := 27) Tryz.results123 _ _ w.heap.size _ _ _ rfl rfl (World.rangeAt_setCells_same _ w.heap.size 0 _ ?_) Tryz.underlying68 rfl (hi2 _ rfl)) rfl ⟨below_setCells (Nat.le_refl _) _ _ _ _ HB.out, fun h => absurd (h.2 j hlt) (by rw [← HC.out, hneg]; omega), fun _ => rfl⟩
            exact there_row H0.out rfl
      · obtain rfl : j = 40 := by omega
        go_wp2_with (first | refine wpList_load_mid rfl 68 _ rfl (w.heap.size + 1) 0 rfl (row (idAt s 40)) _ (range_row H1.out) Tryz.underlying68 rfl (hi2 _ (idAt_len s 40)) ?_ | refine wpList_store_mid rfl 68 _ _ rfl w.heap.size 0 (row (idAt s 40)).toArray rfl rfl ?t1 ?t2 ?t3 ?_)
        case t1 => rw [show (row (idAt s 40)).toArray.size = 20 from by rw [List.size_toArray, row_len, idAt_len]]; exact there_row H0.out rfl
        case t2 => rw [List.size_toArray]; exact hi2 _ (idAt_len s 40)
        case t3 => exact all_oneCell_toArray (row_one _)
        · refine bodyPost_ret (v := .tuple #[.agg (row (idAt s 40)).toArray, .nilIface]) (results_mid2 (t2 := 27) Tryz.results123 _ _ w.heap.size _ _ _ rfl rfl (World.rangeAt_setCells_same wr w.heap.size 0 _ ?_) Tryz.underlying68 rfl (hi2 _ (idAt_len s 40))) rfl ⟨below_setCells (Nat.le_refl _) _ _ _ _ HB.out, fun _ => rfl, fun h => absurd ⟨h40, hgd⟩ h⟩
          rw [row_len, idAt_len]; exact there_row H0.out rfl
  · have hnq : (s.size : Int) ≠ 40 := by omega
    have H0 : Hid ((w.alloc (.cells (row zeros).toArray 68)).heap[w.heap.size]? = some (.cells (row zeros).toArray 68 (0, 0))) := heap_alloc_new w _
    have HB : Hid (Below w.heap.size w (w.alloc (.cells (row zeros).toArray 68))) := (Below.refl _ _).alloc (Nat.le_refl _) _
    go_enter Tryz.func123, Tryz.ntmps123
    go_wp2_with (refine wpList_store_mid rfl 68 _ _ rfl w.heap.size 0 (row zeros).toArray rfl rfl ?t1 ?t2 ?t3 ?_)
    case t1 => exact there_row H0.out rfl
    case t2 => exact hi2 _ rfl
    case t3 => exact all_oneCell_toArray (row_one _)
    · refine bodyPost_ret (v := .tuple #[.agg (row zeros).toArray, .iface 37 (.int .i64 12)]) (results_mid2 (t2 := 27) Tryz.results123 _ _ w.heap.size _ _ _ rfl rfl (World.rangeAt_setCells_same _ w.heap.size 0 _ ?_) Tryz.underlying68 rfl (hi2 _ rfl)) rfl ⟨below_setCells (Nat.le_refl _) _ _ _ _ HB.out, fun h => absurd h.1 h40, fun _ => rfl⟩
      exact there_row H0.out rfl
end Go.Proofs.YtijeogdnjeamaaaGreatDoor.Hx
namespace Go.Proofs.YtijeogdnjeamaaaGreatDoor.Hx
open Go.RowKit
set_option linter.unusedVariables false
set_option maxRecDepth 20000 in
set_option maxHeartbeats 1000000 in
theorem parse_ref (s : ByteArray) (w : World) (hl : s.size ≤ 300000) :
    Calls Tryz.prog 70 #[.string s] w fun e w' => Below w.heap.size w w' ∧ ((s.size = 40 ∧ good s → e = .returned (.tuple #[.agg (row (idAt s 40)).toArray, .bool true])) ∧ (¬ (s.size = 40 ∧ good s) → e = .returned (.tuple #[.agg (row zeros).toArray, .bool false]))) := by
  have hi2 : ∀ l : List Int, l.length = 20 → (Tryz.prog.info? 67).map (·.size) = some (row l).length := fun l h => by rw [row_len, h]; exact Tryz.info67
  by_cases h40 : s.size = 40
  · go_enter Tryz.func70, Tryz.ntmps70
    go_wp2
    go_loopg [5] 40 (fun k i wr => ∃ j : Nat, j ≤ 40 ∧ k = 40 - j ∧ i = .int .i64 j ∧ (∀ k, k < j → 0 ≤ hv (sgn s k)) ∧ Hid (wr.heap[w.heap.size + 1]? = some (.cells (row (idAt s j)).toArray 67 (0, 0))) ∧ Hid (wr.heap[w.heap.size]? = some (.cells (row zeros).toArray 67 (0, 0))) ∧ Hid (Below w.heap.size w wr))
    case atStart => exact ⟨0, by omega, rfl, rfl, fun k hk => by omega, heap_alloc2_new w _ _, heap_alloc2_old w _ _, ((Below.refl _ _).alloc (Nat.le_refl _) _).alloc (by simp) _⟩
    case round =>
      obtain ⟨j, hj, hk, rfl, hgd, H1, H0, HB⟩ := hrel
      by_cases hlt : j < 40
      · obtain ⟨c, HC⟩ : ∃ c, Hid (c = sgn s j) := ⟨_, rfl⟩
        have hix : ∀ w1 : World, (Instr.index 9 (.string s) (.int .i64 j)).run Tryz.prog w1 = .ok (.int .u8 c) w1 := fun w1 => by rw [HC.out]; exact index_sgn s j w1 (by omega)
        have hcb : 0 ≤ c ∧ c < 256 := by rw [HC.out]; exact sgn_bd s j
        obtain ⟨m, HM⟩ : ∃ m, Hid (m = j / 2) := ⟨_, rfl⟩
        have hm : j / 2 = m := HM.out.symm
        have hm2 : m < 20 := by omega
        obtain ⟨x, HX⟩ : ∃ x, Hid (x = (idAt s j).getD (j / 2) 0) := ⟨_, rfl⟩
        have hcell : wr.cell? ⟨w.heap.size + 1, j / 2, none⟩ = some (.int .u8 x) := by rw [HX.out]; exact row_cell H1.out (j / 2) (by rw [idAt_len]; omega)
        have hfz := frozen_of_row wr (w.heap.size + 1) (j / 2) _ 67 H1.out
        have hxb : 0 ≤ x ∧ x < 256 := idAt_bd s j x (by rw [HX.out, List.getD_eq_getElem?_getD, List.getElem?_eq_getElem (by rw [idAt_len]; omega)]; exact List.getElem_mem _)
        rw [hm] at hcell hfz
        by_cases hd : 48 ≤ c ∧ c ≤ 57
        · have hvc : hv c = c - 48 := by unfold hv; rw [if_pos hd]
          go_wp2
          go_roundg (40 - (j + 1))
          case measure => omega
          case rel =>
            refine ⟨j + 1, by omega, rfl, by go_num, ?_, ?_, ?_, HB.out.setCell (by simp) _⟩
            · intro k hk
              rcases Nat.lt_or_ge k j with h | h
              · exact hgd k h
              · obtain rfl : k = j := by omega
                rw [← HC.out, hvc]; omega
            · show _ = _
              rw [heap_setCell_same wr _ _ _ _ _ H1.out, idAt, ← HX.out, ← HC.out, hvc, hm, row_set, show x * 16 % 256 + (c - 48) = (x * 16 + (c - 48)) % 256 from by omega]
            · show _ = _
              rw [heap_setCell_other wr _ _ _ (by simp)]; exact H0.out
        · by_cases hd2 : 97 ≤ c ∧ c ≤ 102
          · have hvc : hv c = c - 87 := by unfold hv; rw [if_neg hd, if_pos hd2]
            have hd1 : ¬ c ≤ 57 := by omega
            go_wp2
            go_roundg (40 - (j + 1))
            case measure => omega
            case rel =>
              refine ⟨j + 1, by omega, rfl, by go_num, ?_, ?_, ?_, HB.out.setCell (by simp) _⟩
              · intro k hk
                rcases Nat.lt_or_ge k j with h | h
                · exact hgd k h
                · obtain rfl : k = j := by omega
                  rw [← HC.out, hvc]; omega
              · show _ = _
                rw [heap_setCell_same wr _ _ _ _ _ H1.out, idAt, ← HX.out, ← HC.out, hvc, hm, row_set, show x * 16 % 256 + (c - 97 + 10) = (x * 16 + (c - 87)) % 256 from by omega]
              · show _ = _
                rw [heap_setCell_other wr _ _ _ (by simp)]; exact H0.out
          · have hvc : hv c = -1 := by unfold hv; rw [if_neg hd, if_neg hd2]
            have fin : ∀ (tm : Array Value), tm.getD 2 undef = .pointer (some ⟨w.heap.size, 0, none⟩) → tm.getD 3 undef = .bool false → (results Tryz.f70 tm).run Tryz.prog (wr.setCells w.heap.size 0 (row zeros).toArray.toList) = .ok (.tuple #[.agg (row zeros).toArray, .bool false]) (wr.setCells w.heap.size 0 (row zeros).toArray.toList) := fun tm h2 h3 =>
              results_mid2 (t2 := 4) Tryz.results70 tm _ w.heap.size _ _ _ h2 h3 (World.rangeAt_setCells_same _ w.heap.size 0 _ (there_row H0.out rfl)) Tryz.underlying67 rfl (hi2 _ rfl)
            have bad : Hid (¬ good s) := fun h => absurd (h j hlt) (by rw [← HC.out, hvc]; omega)
            have HF : Hid (Below w.heap.size w (wr.setCells w.heap.size 0 (row zeros).toArray.toList)) := below_setCells (Nat.le_refl _) _ _ _ _ HB.out
            rcases (by omega : c < 48 ∨ (57 < c ∧ 48 ≤ c ∧ c < 97) ∨ (102 < c ∧ 97 ≤ c ∧ 57 < c ∧ 48 ≤ c)) with h1 | h1 | h1
            all_goals
              go_wp2_with (refine wpList_store_mid rfl 67 _ _ rfl w.heap.size 0 (row zeros).toArray rfl rfl (there_row H0.out rfl) (hi2 _ rfl) (all_oneCell_toArray (row_one _)) ?_)
              exact bodyPost_ret (v := .tuple #[.agg (row zeros).toArray, .bool false]) (fin _ rfl rfl) rfl ⟨HF.out, fun h => absurd h bad.out, fun _ => rfl⟩
      · obtain rfl : j = 40 := by omega
        go_wp2_with (first | refine wpList_load_mid rfl 67 _ rfl (w.heap.size + 1) 0 rfl (row (idAt s 40)) _ (range_row H1.out) Tryz.underlying67 rfl (hi2 _ (idAt_len s 40)) ?_ | refine wpList_store_mid rfl 67 _ _ rfl w.heap.size 0 (row (idAt s 40)).toArray rfl rfl ?t1 ?t2 ?t3 ?_)
        case t1 => rw [show (row (idAt s 40)).toArray.size = 20 from by rw [List.size_toArray, row_len, idAt_len]]; exact there_row H0.out rfl
        case t2 => rw [List.size_toArray]; exact hi2 _ (idAt_len s 40)
        case t3 => exact all_oneCell_toArray (row_one _)
        · refine bodyPost_ret (v := .tuple #[.agg (row (idAt s 40)).toArray, .bool true]) (results_mid2 (t2 := 4) Tryz.results70 _ _ w.heap.size _ _ _ rfl rfl (World.rangeAt_setCells_same wr w.heap.size 0 _ ?_) Tryz.underlying67 rfl (hi2 _ (idAt_len s 40))) rfl ⟨below_setCells (Nat.le_refl _) _ _ _ _ HB.out, fun _ => rfl, fun h => absurd ⟨h40, hgd⟩ h⟩
          rw [row_len, idAt_len]; exact there_row H0.out rfl
  · have hnq : (s.size : Int) ≠ 40 := by omega
    have H1 : Hid (((w.alloc (.cells (row zeros).toArray 67)).alloc (.cells (row zeros).toArray 67)).heap[w.heap.size + 1]? = some (.cells (row zeros).toArray 67 (0, 0))) := heap_alloc2_new w _ _
    have H0 : Hid (((w.alloc (.cells (row zeros).toArray 67)).alloc (.cells (row zeros).toArray 67)).heap[w.heap.size]? = some (.cells (row zeros).toArray 67 (0, 0))) := heap_alloc2_old w _ _
    have HB : Hid (Below w.heap.size w ((w.alloc (.cells (row zeros).toArray 67)).alloc (.cells (row zeros).toArray 67))) := ((Below.refl _ _).alloc (Nat.le_refl _) _).alloc (by simp) _
    go_enter Tryz.func70, Tryz.ntmps70
    go_wp2_with (first | refine wpList_load_mid rfl 67 _ rfl (w.heap.size + 1) 0 rfl (row zeros) _ (range_row H1.out) Tryz.underlying67 rfl (hi2 _ rfl) ?_ | refine wpList_store_mid rfl 67 _ _ rfl w.heap.size 0 (row zeros).toArray rfl rfl ?t1 ?t2 ?t3 ?_)
    case t1 => exact there_row H0.out rfl
    case t2 => exact hi2 _ rfl
    case t3 => exact all_oneCell_toArray (row_one _)
    · refine bodyPost_ret (v := .tuple #[.agg (row zeros).toArray, .bool false]) (results_mid2 (t2 := 4) Tryz.results70 _ _ w.heap.size _ _ _ rfl rfl (World.rangeAt_setCells_same _ w.heap.size 0 _ ?_) Tryz.underlying67 rfl (hi2 _ rfl)) rfl ⟨below_setCells (Nat.le_refl _) _ _ _ _ HB.out, fun h => absurd h.1 h40, fun _ => rfl⟩
      exact there_row H0.out rfl
end Go.Proofs.YtijeogdnjeamaaaGreatDoor.Hx
namespace Go.Proofs.YtijeogdnjeamaaaGreatDoor.Hx
open Go.RowKit
set_option linter.unusedVariables false
set_option linter.unusedSimpArgs false
theorem str_sgn (l : List Int) (k : Nat) (h : k < l.length) (hb : ∀ n ∈ l, 0 ≤ n ∧ n < 256) : sgn (strOfNums l) k = l.getD k 0 := by
  have hm := hb _ (List.getElem_mem h)
  unfold sgn strOfNums
  simp [h]
  omega
theorem dig_bd (n : Int) (h : 0 ≤ n ∧ n < 16) : 0 ≤ dig n ∧ dig n < 256 := by unfold dig; split <;> omega
theorem hv_dig (n : Int) (h : 0 ≤ n ∧ n < 16) : hv (dig n) = n := by
  unfold hv dig
  by_cases a : n < 10
  · rw [if_pos a, if_pos (by omega)]; omega
  · rw [if_neg a, if_neg (by omega), if_pos (by omega)]; omega
theorem hexOf_bd (zs : List Int) (hz : ∀ n ∈ zs, 0 ≤ n ∧ n < 256) : ∀ n ∈ hexOf zs, 0 ≤ n ∧ n < 256 := by
  intro n hn
  simp only [hexOf, List.mem_flatMap] at hn
  obtain ⟨x, hx, hn⟩ := hn
  have := hz x hx
  simp at hn
  rcases hn with rfl | rfl
  · exact dig_bd _ (by omega)
  · exact dig_bd _ (by omega)
theorem hexOf_at : ∀ (zs : List Int) (k : Nat), k < zs.length → (hexOf zs).getD (2 * k) 0 = dig (zs.getD k 0 / 16) ∧ (hexOf zs).getD (2 * k + 1) 0 = dig (zs.getD k 0 % 16)
  | x :: r, 0, _ => by simp [hexOf]
  | x :: r, k + 1, h => by
    have := hexOf_at r k (by simpa using h)
    have e : hexOf (x :: r) = dig (x / 16) :: dig (x % 16) :: hexOf r := by simp [hexOf]
    rw [e, show 2 * (k + 1) = 2 * k + 1 + 1 from by omega, show 2 * k + 1 + 1 + 1 = (2 * k + 1) + 1 + 1 from rfl]
    simpa using this
theorem hex_sgn (zs : List Int) (hl : zs.length = 20) (hz : ∀ n ∈ zs, 0 ≤ n ∧ n < 256) (k : Nat) (hk : k < 40) : hv (sgn (strOfNums (hexOf zs)) k) = if k % 2 = 0 then zs.getD (k / 2) 0 / 16 else zs.getD (k / 2) 0 % 16 := by
  rw [str_sgn _ k (by rw [hexOf_len]; omega) (hexOf_bd zs hz)]
  have hx := hz (zs.getD (k / 2) 0) (by rw [List.getD_eq_getElem?_getD, List.getElem?_eq_getElem (by omega)]; exact List.getElem_mem _)
  obtain ⟨h0, h1⟩ := hexOf_at zs (k / 2) (by omega)
  by_cases h2 : k % 2 = 0
  · rw [if_pos h2, show k = 2 * (k / 2) from by omega, h0, show 2 * (k / 2) / 2 = k / 2 from by omega]
    exact hv_dig _ (by omega)
  · rw [if_neg h2]
    have e : (hexOf zs).getD k 0 = (hexOf zs).getD (2 * (k / 2) + 1) 0 := by congr 1; omega
    rw [e, h1]
    exact hv_dig _ (by omega)
theorem hex_good (zs : List Int) (hl : zs.length = 20) (hz : ∀ n ∈ zs, 0 ≤ n ∧ n < 256) : good (strOfNums (hexOf zs)) := fun k hk => by
  have hx := hz (zs.getD (k / 2) 0) (by rw [List.getD_eq_getElem?_getD, List.getElem?_eq_getElem (by omega)]; exact List.getElem_mem _)
  rw [hex_sgn zs hl hz k hk]
  split <;> omega
theorem getD_set (l : List Int) (i j : Nat) (v : Int) (hi : i < l.length) : (l.set i v).getD j 0 = if i = j then v else l.getD j 0 := by
  rw [List.getD_eq_getElem?_getD, List.getElem?_set]
  by_cases h : i = j
  · subst h; simp [hi]
  · simp [h]
theorem hex_back_at (zs : List Int) (hl : zs.length = 20) (hz : ∀ n ∈ zs, 0 ≤ n ∧ n < 256) : ∀ k, k ≤ 40 → ∀ j, j < 20 → (idAt (strOfNums (hexOf zs)) k).getD j 0 = if 2 * j + 1 < k then zs.getD j 0 else if 2 * j < k then zs.getD j 0 / 16 else 0
  | 0, _, j, hj => by
    rw [if_neg (by omega), if_neg (by omega)]
    simp only [idAt, zeros, List.getD_eq_getElem?_getD, List.getElem?_replicate]; split <;> rfl
  | k + 1, hk, j, hj => by
    have ih := hex_back_at zs hl hz k (by omega)
    have hx := hz (zs.getD j 0) (by rw [List.getD_eq_getElem?_getD, List.getElem?_eq_getElem (by omega)]; exact List.getElem_mem _)
    rw [idAt, getD_set _ _ _ _ (by rw [idAt_len]; omega), hex_sgn zs hl hz k (by omega)]
    by_cases e : k / 2 = j
    · rw [if_pos e, ih (k / 2) (by omega), e]
      by_cases h2 : k % 2 = 0
      · rw [if_pos h2, if_neg (by omega), if_neg (by omega), if_neg (by omega), if_pos (by omega)]; omega
      · rw [if_neg h2, if_neg (by omega), if_pos (by omega), if_pos (by omega)]; omega
    · rw [if_neg e, ih j hj]
      by_cases h : 2 * j + 1 < k
      · rw [if_pos h, if_pos (by omega)]
      · rw [if_neg h]
        by_cases h' : 2 * j < k
        · omega
        · rw [if_neg h', if_neg (show ¬ 2 * j + 1 < k + 1 by omega), if_neg (show ¬ 2 * j < k + 1 by omega)]
theorem hex_back (zs : List Int) (hl : zs.length = 20) (hz : ∀ n ∈ zs, 0 ≤ n ∧ n < 256) : idAt (strOfNums (hexOf zs)) 40 = zs := by
  apply List.ext_getElem (by rw [idAt_len, hl])
  intro j h1 h2
  have := hex_back_at zs hl hz 40 (Nat.le_refl _) j (by omega)
  rw [if_pos (by omega)] at this
  simpa [h1, h2] using this
end Go.Proofs.YtijeogdnjeamaaaGreatDoor.Hx
namespace Go.Proofs.YtijeogdnjeamaaaGreatDoor
open Go.RowKit
set_option linter.unusedVariables false
set_option linter.unusedSimpArgs false
def hxS (x : List Int) : Str := (Hx.hexOf x).map fun n => UInt8.ofNat n.toNat
theorem hxS_str (x : List Int) : strOfNums (Hx.hexOf x) = ⟨(hxS x).toArray⟩ := rfl
theorem hxS_len (x : List Int) (h : IdW x) : (hxS x).length = 40 := by unfold hxS; rw [List.length_map, Hx.hexOf_len, h.1]
theorem hxS_no (x : List Int) (h : IdW x) (c : UInt8) (hc : c.toNat < 48) : c ∉ hxS x := by
  intro hm
  obtain ⟨n, hn, e⟩ := List.mem_map.1 hm
  unfold Hx.hexOf at hn
  obtain ⟨y, hy, hn⟩ := List.mem_flatMap.1 hn
  have hb := h.2 y hy
  have hd : ∀ y : Int, 0 ≤ y → y < 16 → 48 ≤ Hx.dig y ∧ Hx.dig y < 103 := fun y h1 h2 => by unfold Hx.dig; split <;> omega
  have hn2 : 48 ≤ n ∧ n < 103 := by
    simp only [List.mem_cons, List.not_mem_nil, or_false] at hn
    rcases hn with rfl | rfl
    · exact hd _ (by omega) (by omega)
    · exact hd _ (by omega) (by omega)
  have h2 := congrArg UInt8.toNat e
  rw [UInt8.toNat_ofNat'] at h2
  omega
def prs (s : Str) : Option (List Int) := if s.length = 40 ∧ ((List.range 40).all fun k => decide (0 ≤ Hx.hv (Hx.sgn ⟨s.toArray⟩ k))) = true then some (Hx.idAt ⟨s.toArray⟩ 40) else none
theorem prs_iff (s : Str) : (s.length = 40 ∧ ((List.range 40).all fun k => decide (0 ≤ Hx.hv (Hx.sgn ⟨s.toArray⟩ k))) = true) ↔ ((⟨s.toArray⟩ : ByteArray).size = 40 ∧ Hx.good ⟨s.toArray⟩) := by
  have e : (⟨s.toArray⟩ : ByteArray).size = s.length := by simp [ByteArray.size]
  rw [e]
  unfold Hx.good
  simp [List.all_eq_true]
theorem prs_yes {s : Str} (h : (⟨s.toArray⟩ : ByteArray).size = 40 ∧ Hx.good ⟨s.toArray⟩) : prs s = some (Hx.idAt ⟨s.toArray⟩ 40) := by rw [prs, if_pos ((prs_iff s).2 h)]
theorem prs_not {s : Str} (h : ¬ ((⟨s.toArray⟩ : ByteArray).size = 40 ∧ Hx.good ⟨s.toArray⟩)) : prs s = none := by rw [prs, if_neg (fun k => h ((prs_iff s).1 k))]
theorem prs_wf {s : Str} {x : List Int} (h : prs s = some x) : IdW x ∧ s.length = 40 := by
  unfold prs at h
  split at h
  · rename_i hc
    rw [← Option.some.inj h]
    exact ⟨⟨Hx.idAt_len _ _, Hx.idAt_bd _ _⟩, hc.1⟩
  · exact absurd h (by simp)
theorem prs_hx (x : List Int) (h : IdW x) : prs (hxS x) = some x := by
  have e := hxS_str x
  have hg := Hx.hex_good x h.1 h.2
  have hb := Hx.hex_back x h.1 h.2
  rw [e] at hg hb
  rw [prs_yes ⟨by simp only [ByteArray.size, List.size_toArray]; exact hxS_len x h, hg⟩, hb]
theorem prs_short {s : Str} (h : s.length ≠ 40) : prs s = none := by rw [prs, if_neg (fun k => h k.1)]
theorem noEnd_tx (t : Str) : noEnd (tx t) = t := by
  unfold tx
  split
  · rename_i h; subst h; rfl
  · unfold noEnd trS
    rw [if_pos ⟨by simp, by simp⟩]
    simp
theorem noEnd_len (t : Str) : (noEnd t).length ≤ t.length := by
  unfold noEnd trS
  split
  · rw [List.length_take]; omega
  · exact Nat.le_refl _
theorem tx_len (t : Str) : (tx t).length ≤ t.length + 1 := by
  unfold tx
  split
  · simp
  · simp
theorem map_noEnd (l : List Str) : (l.map tx).map noEnd = l := by
  rw [List.map_map]
  conv => rhs; rw [← List.map_id l]
  exact List.map_congr_left fun x _ => noEnd_tx x
theorem pktL_inj {a b : List Str} (ha : okL a) (hb : okL b) (h : pktL a = pktL b) : a = b := by
  obtain ⟨r, e1, e2⟩ := pktL_pre b a [] hb ha (by rw [h, List.append_nil])
  have : r = [] := by
    cases r with
    | nil => rfl
    | cons x r =>
      have := congrArg List.length e2
      rw [show pktL (x :: r) = pkt x ++ pktL r from rfl, List.length_append, pkt_len] at this
      simp at this
      omega
  rw [e1, this, List.append_nil]
def wdsA : Str → Str → List Str
  | w, [] => [w]
  | w, c :: r => if c = 10 ∧ r = [] then [w] else if c = 32 then w :: wdsA [] r else wdsA (w ++ [c]) r
theorem wds_len : ∀ (r w : Str), ∀ y ∈ wdsA w r, y.length ≤ w.length + r.length
  | [], w, y, hy => by rw [wdsA] at hy; rw [List.mem_singleton.1 hy]; simp
  | c :: r, w, y, hy => by
    rw [wdsA] at hy
    split at hy
    · rw [List.mem_singleton.1 hy]; simp
    · split at hy
      · rcases List.mem_cons.1 hy with rfl | hy
        · simp
        · have := wds_len r [] y hy
          simp at this ⊢
          omega
      · have := wds_len r (w ++ [c]) y hy
        simp at this ⊢
        omega
theorem wds_plain : ∀ (u w : Str), (10 : UInt8) ∉ u → (32 : UInt8) ∉ u → wdsA w (u ++ [10]) = [w ++ u]
  | [], w, _, _ => by simp [wdsA]
  | c :: u, w, h1, h2 => by
    have hc1 : c ≠ 10 := fun e => h1 (by simp [e])
    have hc2 : c ≠ 32 := fun e => h2 (by simp [e])
    rw [List.cons_append, wdsA, if_neg (fun h => hc1 h.1), if_neg hc2, wds_plain u (w ++ [c]) (fun h => h1 (by simp [h])) (fun h => h2 (by simp [h]))]
    simp
theorem wds_blank : ∀ (u w r : Str), (10 : UInt8) ∉ u → (32 : UInt8) ∉ u → wdsA w (u ++ 32 :: r) = (w ++ u) :: wdsA [] r
  | [], w, r, _, _ => by
    rw [List.nil_append, wdsA, if_neg (fun h => by have := h.1; revert this; decide), if_pos rfl, List.append_nil]
  | c :: u, w, r, h1, h2 => by
    have hc1 : c ≠ 10 := fun e => h1 (by simp [e])
    have hc2 : c ≠ 32 := fun e => h2 (by simp [e])
    rw [List.cons_append, wdsA, if_neg (fun h => hc1 h.1), if_neg hc2, wds_blank u (w ++ [c]) r (fun h => h1 (by simp [h])) (fun h => h2 (by simp [h]))]
    simp
end Go.Proofs.YtijeogdnjeamaaaGreatDoor
namespace Go.Proofs.YtijeogdnjeamaaaGreatDoor
open Go.RowKit
set_option linter.unusedVariables false
set_option linter.unusedSimpArgs false
theorem size68 : (Tryz.prog.info? 68).map (·.size) = some 20 := by kernel_rfl
theorem size67 : (Tryz.prog.info? 67).map (·.size) = some 20 := by kernel_rfl
end Go.Proofs.YtijeogdnjeamaaaGreatDoor
namespace Go.Proofs.YtijeogdnjeamaaaGreatDoor
open Go.RowKit
set_option linter.unusedVariables false
set_option linter.unusedSimpArgs false
theorem enter30 (x : Value) (w : World) : (callFunc 30 #[x]).run Tryz.prog w = .ok (.enter 30 #[x]) w := by kernel_rfl
theorem hexP (x : List Int) (h : IdW x) (w : World) : Calls Tryz.prog 30 #[idV x] w fun e w' => e = .returned (.string ⟨(hxS x).toArray⟩) ∧ Below w.heap.size w w' := Hx.hex_prog x w h.1 h.2
theorem hexD (x : List Int) (h : IdW x) (w : World) : Calls Tryz.prog 34 #[idV x] w fun e w' => e = .returned (.string ⟨(hxS x).toArray⟩) ∧ Below w.heap.size w w' := Hx.hex_ref x w h.1 h.2
end Go.Proofs.YtijeogdnjeamaaaGreatDoor
