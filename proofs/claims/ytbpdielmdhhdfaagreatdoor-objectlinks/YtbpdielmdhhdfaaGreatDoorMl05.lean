import Derived.Test.YtbpdielmdhhdfaaGreatDoorMl04
import Derived.Test.YtbpdielmdhhdfaaGreatDoorMl01
import Derived.Test.YtbpdielmdhhdfaaGreatDoorMl02
namespace Go.Proofs.YtbpdielmdhhdfaaGreatDoor.Hx
open Go.RowKit
set_option linter.unusedVariables false
theorem ret_int {k : IntKind} {a b : Int} (h : a = b) : Ending.returned (.int k a) = .returned (.int k b) := by rw [h]
theorem step_call {P : Program} {ops : Array Oper} {o : Oper} {a : Act} {w : World} {K : Act → World → Prop} {Q : Exit → Act → World → Prop} {E : Prop} (hg : o.guard = none) (f : FuncId) (s : Tmp) (t : TypeId) (v r : Value)
    (ho : o.op = .call { callee := .value (.func f), args := #[.tmp s], argTypes := #[t] }) (hx : a.eval (.tmp s) = v) (hent : ∀ (v : Value) (w : World), (callFunc f #[v]).run P w = .ok (.enter f #[v]) w)
    (hc : Calls P f #[v] w fun e w' => e = .returned r ∧ w' = w) (h : K (a.put o.dst r) w) :
    if Region.wanted o (yielded ops a.tmps) = true then Oper.wp P o a w K Q else E := by
  have hw : Region.wanted o (yielded ops a.tmps) = true := by simp [Region.wanted, hg]
  rw [if_pos hw]
  have hx' : a.tmps[s]?.getD undef = v := by simpa [Act.eval] using hx
  unfold Oper.wp
  simp [execOp, ho, resolve, invoke, go_sem]
  rw [hx', hent, Oper.upon_enter]
  refine hc.mono ?_
  rintro e w' ⟨rfl, rfl⟩
  exact h
theorem wrap_u8 (n : Int) (h0 : 0 ≤ n) (h1 : n < 256) : IntKind.u8.wrap n = n := by
  obtain ⟨m, rfl⟩ := Int.eq_ofNat_of_zero_le h0
  have : ∀ m : Nat, m < 256 → IntKind.u8.wrap (m : Int) = m := by decide +kernel
  exact this m (by omega)
theorem below_alloc {w w' : World} {o : Obj} (h : Below (w.heap.size + 1) (w.alloc o) w') : Below w.heap.size w w' :=
  ((Below.refl _ w).alloc (Nat.le_refl _) o).trans (h.mono (Nat.le_succ _))
theorem enter104 (v : Value) (w : World) : (callFunc 104 #[v]).run Tryz.prog w = .ok (.enter 104 #[v]) w := by kernel_rfl
set_option maxHeartbeats 1000000 in
theorem digit_any (n : Int) (w : World) (h0 : 0 ≤ n) (h1 : n < 16) : Calls Tryz.prog 104 #[.int .u8 n] w fun e w' => e = .returned (.int .u8 (dig n)) ∧ w' = w := by
  have hd : dig n = if n < 10 then 48 + n else 87 + n := rfl
  by_cases h : n < 10
  · rw [if_pos h] at hd
    go_enter Tryz.func104, Tryz.ntmps104
    go_wp2
    go_ret
    exact ⟨ret_int (by first | (rw [hd]; done) | (rw [hd]; omega) | go_num), rfl⟩
  · rw [if_neg h] at hd
    go_enter Tryz.func104, Tryz.ntmps104
    go_wp2
    go_ret
    exact ⟨ret_int (by omega), rfl⟩
set_option maxRecDepth 20000 in
set_option maxHeartbeats 1000000 in
theorem hex_ref (zs : List Int) (w : World) (hl : zs.length = 20) (hz : ∀ n ∈ zs, 0 ≤ n ∧ n < 256) :
    Calls Tryz.prog 60 #[.agg (row zs).toArray] w fun e w' => e = .returned (.string (strOfNums (hexOf zs))) ∧ Below w.heap.size w w' := by
  obtain ⟨i5, hi, hz0, hz1, hz2⟩ := info_parts Tryz.info5
  obtain ⟨arr, HA⟩ : ∃ arr, Hid (arr = row zs) := ⟨_, rfl⟩
  rw [← HA.out]
  have hsz : arr.toArray.size = 20 := by rw [HA.out, List.size_toArray, row_len]; exact hl
  have HB0 : Hid (Below w.heap.size w (w.alloc (.cells arr.toArray 31))) := (Below.refl _ w).alloc (Nat.le_refl _) _
  have HC0 : Hid (∀ i, i < 20 → (w.alloc (.cells arr.toArray 31)).cell? ⟨w.heap.size, i, none⟩ = some (.int .u8 (zs.getD i 0))) := fun i hi => row_cell (zs := zs) (t := 31) (fr := (0, 0)) (by rw [HA.out]; exact heap_alloc_new w _) i (by omega)
  go_enter Tryz.func60, Tryz.ntmps60
  go_wp2
  go_loopg [3, 4] 20 (fun k s i wr => ∃ j cp : Nat, ∃ a : Option Addr, j ≤ 20 ∧ k = 20 - j ∧ i = .int .i64 j ∧ s = .slice a (2 * j) cp ∧ wr.ownsRow (w.heap.size + 1) 5 1 (.slice a (2 * j) cp) (2 * j) ((hexOf (zs.take j)).map (Value.int .u8)) ∧ Hid (Below (w.heap.size + 1) (w.alloc (.cells arr.toArray 31)) wr))
  case atStart => exact ⟨0, 0, none, by omega, rfl, rfl, rfl, World.ownsRow_nil _ _ _ _, Below.refl _ _⟩
  case round =>
    obtain ⟨j, cp, a, hj, hk, rfl, rfl, hown, HB⟩ := hrel
    by_cases hlt : j < 20
    · obtain ⟨x, HX⟩ : ∃ x, Hid (x = zs.getD j 0) := ⟨_, rfl⟩
      have hc : wr.cell? ⟨w.heap.size, j, none⟩ = some (.int .u8 x) := by rw [HX.out]; exact (HB.out.cell (p := ⟨w.heap.size, j, none⟩) (by simp)).trans (HC0.out j hlt)
      have hx := hz x (by rw [HX.out, List.getD_eq_getElem?_getD, List.getElem?_eq_getElem (by omega)]; exact List.getElem_mem _)
      obtain ⟨p, HP⟩ : ∃ p, Hid (p = x / 16) := ⟨_, rfl⟩
      obtain ⟨q, HQ⟩ : ∃ q, Hid (q = x % 16) := ⟨_, rfl⟩
      have hp0 : x / 16 = p := HP.out.symm
      have hq0 : x % 16 = q := HQ.out.symm
      have hp : IntKind.u8.wrap (x.tdiv 16) = p := by rw [Int.tdiv_eq_ediv_of_nonneg hx.1, hp0]; exact wrap_u8 p (by omega) (by omega)
      have hq : x.tmod 16 = q := by rw [Int.tmod_eq_emod_of_nonneg hx.1, hq0]
      have hdp : ∀ w1, Calls Tryz.prog 104 #[.int .u8 p] w1 fun e w' => e = .returned (.int .u8 (dig p)) ∧ w' = w1 := fun w1 => digit_any p w1 (by omega) (by omega)
      have hdq : ∀ w1, Calls Tryz.prog 104 #[.int .u8 q] w1 fun e w' => e = .returned (.int .u8 (dig q)) ∧ w' = w1 := fun w1 => digit_any q w1 (by omega) (by omega)
      obtain ⟨dp, HDP⟩ : ∃ d, Hid (d = dig p) := ⟨_, rfl⟩
      obtain ⟨dq, HDQ⟩ : ∃ d, Hid (d = dig q) := ⟨_, rfl⟩
      rw [← HDP.out] at hdp
      rw [← HDQ.out] at hdq
      go_wp2
      go_region_law (first
        | (refine step_call (by rfl) 104 13 5 (.int .u8 p) (.int .u8 dp) (by rfl) (by rfl) enter104 (hdp _) ?_)
        | (refine step_call (by rfl) 104 18 5 (.int .u8 q) (.int .u8 dq) (by rfl) (by rfl) enter104 (hdq _) ?_)
        | (refine step_append_lies _ (by rfl) _ _ _ (by rfl) (w.heap.size + 1) 5 i5 (.int .u8 0) 1 1 Tryz.underlying23 hi hz0 hz1 hz2 rfl (by omega) (.slice a (2 * j) cp) (2 * j) ((hexOf (zs.take j)).map (Value.int .u8)) (by rfl) (by exact hown.alloc _) ⟨wr.heap.size, 0, none⟩ 2 2 [.int .u8 dp, .int .u8 dq] (by rfl) (by rfl) (by intro j u hj; match j, hj with | 0, hj => simp at hj; subst hj; simp [Addr.add] | 1, hj => simp at hj; subst hj; simp [Addr.add]) (by intro u hu; simp at hu; rcases hu with rfl | rfl <;> rfl) (by omega) (by unfold maxLen; omega) (by omega) (by have := HB.out.size; simp at this ⊢; omega) (wr.heap.size + 1) (by simp) ?_; intro g2 cp2 w3 hown1 hgrow hat hlt))
      all_goals
        have HB2 : Hid (Below (w.heap.size + 1) (w.alloc (.cells arr.toArray 31)) w3) := below_step HB.out (by simp) (grownBy_allocD wr _ none) hgrow (fun k hk => (own_lt hown k hk).1)
        have HO : Hid (w3.ownsRow (w.heap.size + 1) 5 1 (.slice (some ⟨g2, 0, none⟩) (2 * (j + 1)) cp2) (2 * (j + 1)) ((hexOf (zs.take (j + 1))).map (Value.int .u8))) := by
          show World.ownsRow _ _ _ _ _ _ _
          rw [take_snoc zs j (by omega), hexOf_snoc, List.map_append, ← HX.out, ← HP.out, ← HQ.out, List.map_cons, List.map_cons, List.map_nil, ← HDP.out, ← HDQ.out]
          exact hown1
        clear hown1 hgrow hat hown
        go_wp2
        go_roundg (20 - (j + 1))
        case measure => omega
        case rel => exact ⟨j + 1, cp2, _, by omega, rfl, by go_num, rfl, HO.out, HB2⟩
    · obtain rfl : j = 20 := by omega
      obtain ⟨g, cp, hcg⟩ : ∃ g cp', Value.slice a 40 cp = .slice (some ⟨g, 0, none⟩) 40 cp' := by
        obtain ⟨g, cp', h1, -, -⟩ := hown.form (by omega)
        exact ⟨g, cp', h1⟩
      simp only [Value.slice.injEq, true_and] at hcg
      obtain ⟨rfl, rfl⟩ := hcg
      have hcv : ∀ dst, Tryz.prog.underlying dst = some .string → (convert 23 dst (.slice (some ⟨g, 0, none⟩) 40 cp)).run Tryz.prog wr = .ok (.string (strOfNums (hexOf zs))) wr :=
        run_convert_bytes_arg wr 23 5 Tryz.underlying23 Tryz.underlying5 g 0 40 cp (hexOf zs) (by rw [hexOf_len]; omega) fun i hi => by
          rw [Nat.zero_add, hown.cellAt i (by omega), List.take_of_length_le (by omega), List.getElem?_map, List.getElem?_eq_getElem (by rw [hexOf_len]; omega)]
          simp [show i < (hexOf zs).length by rw [hexOf_len]; omega]
      have hcv9 := hcv 9 Tryz.underlying9
      clear hcv hown
      go_wp2
      go_ret
      exact ⟨rfl, below_alloc HB.out⟩
end Go.Proofs.YtbpdielmdhhdfaaGreatDoor.Hx
namespace Go.Proofs.YtbpdielmdhhdfaaGreatDoor.Hx
open Go.RowKit
set_option linter.unusedVariables false
def hv (c : Int) : Int := if 48 ≤ c ∧ c ≤ 57 then c - 48 else if 97 ≤ c ∧ c ≤ 102 then c - 87 else -1
def sgn (s : ByteArray) (k : Nat) : Int := (s.data.toList.getD k 0).toNat
def zeros : List Int := List.replicate 20 0
def idAt (s : ByteArray) : Nat → List Int
  | 0 => zeros
  | k + 1 => (idAt s k).set (k / 2) (((idAt s k).getD (k / 2) 0 * 16 + hv (sgn s k)) % 256)
theorem idAt_len (s : ByteArray) : ∀ k, (idAt s k).length = 20
  | 0 => rfl
  | k + 1 => by rw [idAt, List.length_set, idAt_len s k]
theorem sgn_bd (s : ByteArray) (k : Nat) : 0 ≤ sgn s k ∧ sgn s k < 256 := by
  unfold sgn
  have := (s.data.toList.getD k 0).toNat_lt
  omega
theorem idAt_bd (s : ByteArray) : ∀ k, ∀ n ∈ idAt s k, 0 ≤ n ∧ n < 256
  | 0 => by intro n hn; simp [idAt, zeros] at hn; omega
  | k + 1 => by
    intro n hn
    rcases List.mem_or_eq_of_mem_set hn with h | h
    · exact idAt_bd s k n h
    · omega
def good (s : ByteArray) : Prop := ∀ k, k < 40 → 0 ≤ hv (sgn s k)
theorem firstIdx_digs (c : Int) (h0 : 0 ≤ c) (h1 : c < 256) : firstIdx { data := #[48, 49, 50, 51, 52, 53, 54, 55, 56, 57, 97, 98, 99, 100, 101, 102] } c.toNat.toUInt8 = hv c := by
  obtain ⟨n, rfl⟩ := Int.eq_ofNat_of_zero_le h0
  have : ∀ n : Nat, n < 256 → firstIdx { data := #[48, 49, 50, 51, 52, 53, 54, 55, 56, 57, 97, 98, 99, 100, 101, 102] } ((n : Int).toNat.toUInt8) = hv n := by decide +kernel
  exact this n (by omega)
set_option maxHeartbeats 1000000 in
theorem indexByte_any (c : Int) (w : World) (h0 : 0 ≤ c) (h1 : c < 256) :
    Calls Tryz.prog 209 #[.string { data := #[48, 49, 50, 51, 52, 53, 54, 55, 56, 57, 97, 98, 99, 100, 101, 102] }, .int .u8 c] w fun e w' => e = .returned (.int .i64 (hv c)) ∧ w' = w := by
  have h17 := @run_callFunc_extern Tryz.prog 216 _ Extern.BytealgIndexByte.indexByte Tryz.func216 (by kernel_rfl) (by kernel_rfl) (by kernel_rfl) (by kernel_rfl)
  have hr := run_indexByte_string (P := Tryz.prog) { data := #[48, 49, 50, 51, 52, 53, 54, 55, 56, 57, 97, 98, 99, 100, 101, 102] } c
  rw [firstIdx_digs c h0 h1] at hr
  go_enter Tryz.func209, Tryz.ntmps209
  go_wp2
  go_ret
  exact ⟨rfl, rfl⟩
theorem results_mid2 {P : Program} {fn : Func} {p q : Tmp} {ty : TypeId} {t2 : TypeId} (h : fn.results = #[.cell p ty, .tmp q]) (tmps : Array Value) (w : World) (g : Nat) (cs : List Value) (d : TypeDesc) (v : Value)
    (hp : tmps.getD p undef = .pointer (some ⟨g, 0, none⟩)) (hq : tmps.getD q undef = v) (hc : w.rangeAt g 0 cs) (hu : P.underlying ty = some d) (hd : d.isRow = true) (hi : (P.info? ty).map (·.size) = some cs.length) :
    (results fn tmps).run P w = .ok (.tuple #[.agg cs.toArray, v]) w := by
  have hp' : tmps[p]?.getD undef = .pointer (some ⟨g, 0, none⟩) := by simpa using hp
  have hq' : tmps[q]?.getD undef = v := by simpa using hq
  simp [results, h, hp', hq', asAddr, run_loadVar_mid w g 0 ty cs d hc hu hd hi]
end Go.Proofs.YtbpdielmdhhdfaaGreatDoor.Hx
namespace Go.Proofs.YtbpdielmdhhdfaaGreatDoor.Hx
open Go.RowKit
set_option linter.unusedVariables false
theorem hv_neg (c : Int) (h : ¬ 0 ≤ hv c) : hv c = -1 := by
  unfold hv at h ⊢
  by_cases a : 48 ≤ c ∧ c ≤ 57
  · rw [if_pos a] at h; omega
  · rw [if_neg a] at h ⊢
    by_cases b : 97 ≤ c ∧ c ≤ 102
    · rw [if_pos b] at h; omega
    · rw [if_neg b]
theorem index_sgn (s : ByteArray) (j : Nat) (w : World) (h : j < s.size) : (Instr.index 9 (.string s) (.int .i64 j)).run Tryz.prog w = .ok (.int .u8 (sgn s j)) w := by
  rw [run_index_string (P := Tryz.prog) w 9 s .i64 j Tryz.underlying9, dif_pos ⟨by omega, by omega⟩]
  unfold sgn
  have hj : j < s.data.toList.length := by simpa using h
  simp only [Int.toNat_natCast, List.getD_eq_getElem?_getD, List.getElem?_eq_getElem hj, Option.getD_some]
  rfl
theorem below_setCells {B g : Nat} (hB : B ≤ g) : ∀ (vs : List Value) (o : Nat) (w0 w : World), Below B w0 w → Below B w0 (w.setCells g o vs)
  | [], _, _, _, h => h
  | v :: r, o, w0, _, h => below_setCells hB r (o + 1) w0 _ (h.setCell (p := ⟨g, o, none⟩) hB v)
theorem shl_or (a n : Int) (ha : 0 ≤ a ∧ a < 256) (hn : 0 ≤ n ∧ n < 16) : bits .or .u8 (a * 16 % 256) n = (a * 16 + n) % 256 := by
  obtain ⟨x, rfl⟩ := Int.eq_ofNat_of_zero_le ha.1
  obtain ⟨y, rfl⟩ := Int.eq_ofNat_of_zero_le hn.1
  have : ∀ y : Nat, y < 16 → ∀ x : Nat, x < 256 → bits .or .u8 ((x : Int) * 16 % 256) (y : Int) = ((x : Int) * 16 + y) % 256 := by decide +kernel
  exact this y (by omega) x (by omega)
set_option maxRecDepth 20000 in
set_option maxHeartbeats 1000000 in
theorem parse_prog (s : ByteArray) (w : World) (hl : s.size ≤ 300000) :
    Calls Tryz.prog 174 #[.string s] w fun e w' => Below w.heap.size w w' ∧ ((s.size = 40 ∧ good s → e = .returned (.tuple #[.agg (row (idAt s 40)).toArray, .nilIface])) ∧ (¬ (s.size = 40 ∧ good s) → e = .returned (.tuple #[.agg (row zeros).toArray, .iface 35 (.int .i64 12)]))) := by
  have hi2 : ∀ l : List Int, l.length = 20 → (Tryz.prog.info? 32).map (·.size) = some (row l).length := fun l h => by rw [row_len, h]; exact Tryz.info32
  obtain ⟨zr, HZ⟩ : ∃ zr, Hid (zr = row zeros) := ⟨_, rfl⟩
  by_cases h40 : s.size = 40
  · go_enter Tryz.func174, Tryz.ntmps174
    go_wp2
    go_loopg [14] 40 (fun k i wr => ∃ j : Nat, j ≤ 40 ∧ k = 40 - j ∧ i = .int .i64 j ∧ (∀ k, k < j → 0 ≤ hv (sgn s k)) ∧ Hid (wr.heap[w.heap.size + 1]? = some (.cells (row (idAt s j)).toArray 32 (0, 0))) ∧ Hid (wr.heap[w.heap.size]? = some (.cells (row zeros).toArray 32 (0, 0))) ∧ Hid (Below w.heap.size w wr))
    case atStart => exact ⟨0, by omega, rfl, rfl, fun k hk => by omega, heap_alloc2_new w _ _, heap_alloc2_old w _ _, ((Below.refl _ _).alloc (Nat.le_refl _) _).alloc (by simp) _⟩
    case round =>
      obtain ⟨j, hj, hk, rfl, hgd, H1, H0, HB⟩ := hrel
      by_cases hlt : j < 40
      · obtain ⟨c, HC⟩ : ∃ c, Hid (c = sgn s j) := ⟨_, rfl⟩
        have hix : ∀ w1 : World, (Instr.index 9 (.string s) (.int .i64 j)).run Tryz.prog w1 = .ok (.int .u8 c) w1 := fun w1 => by rw [HC.out]; exact index_sgn s j w1 (by omega)
        have hcb : 0 ≤ c ∧ c < 256 := by rw [HC.out]; exact sgn_bd s j
        by_cases hn : 0 ≤ hv c
        · obtain ⟨n, HN⟩ : ∃ n, Hid (n = hv c) := ⟨_, rfl⟩
          have hnb : 0 ≤ n ∧ n < 16 := by rw [HN.out]; refine ⟨hn, ?_⟩; unfold hv; split; omega; split <;> omega
          obtain ⟨x, HX⟩ : ∃ x, Hid (x = (idAt s j).getD (j / 2) 0) := ⟨_, rfl⟩
          have hcell : wr.cell? ⟨w.heap.size + 1, j / 2, none⟩ = some (.int .u8 x) := by rw [HX.out]; exact row_cell H1.out (j / 2) (by rw [idAt_len]; omega)
          have hfz := frozen_of_row wr (w.heap.size + 1) (j / 2) _ 32 H1.out
          have hxb : 0 ≤ x ∧ x < 256 := idAt_bd s j x (by rw [HX.out, List.getD_eq_getElem?_getD, List.getElem?_eq_getElem (by rw [idAt_len]; omega)]; exact List.getElem_mem _)
          obtain ⟨y, HY⟩ : ∃ y, Hid (y = (x * 16 + n) % 256) := ⟨_, rfl⟩
          have hor := shl_or x n hxb hnb
          rw [← HY.out] at hor
          have hwn : IntKind.u8.wrap n = n := wrap_u8 n hnb.1 (by omega)
          obtain ⟨m, HM⟩ : ∃ m, Hid (m = j / 2) := ⟨_, rfl⟩
          have hm : j / 2 = m := HM.out.symm
          have hm2 : m < 20 := by omega
          rw [hm] at hcell hfz
          go_wp2_with (go_at_call 209; refine (indexByte_any c _ hcb.1 hcb.2).mono ?_; rintro e w1 ⟨rfl, rfl⟩; rw [← HN.out])
          go_roundg (40 - (j + 1))
          case measure => omega
          case rel =>
            refine ⟨j + 1, by omega, rfl, by go_num, ?_, ?_, ?_, HB.out.setCell (by simp) _⟩
            · intro k hk
              rcases Nat.lt_or_ge k j with h | h
              · exact hgd k h
              · obtain rfl : k = j := by omega
                rw [← HC.out]; exact hn
            · show _ = _
              rw [heap_setCell_same w1 _ _ _ _ _ H1.out, idAt, ← row_set, ← HX.out, ← HC.out, ← HN.out, ← HY.out, hm, ← hor]
            · show _ = _
              rw [heap_setCell_other w1 _ _ _ (by simp)]; exact H0.out
        · have hneg : hv c = -1 := hv_neg c hn
          go_wp2_with (first | (go_at_call 209; refine (indexByte_any c _ hcb.1 hcb.2).mono ?_; rintro e w1 ⟨rfl, rfl⟩; rw [hneg]) | refine wpList_store_mid rfl 32 _ _ rfl w.heap.size 0 (row zeros).toArray rfl rfl ?t1 ?t2 ?t3 ?_)
          case t1 => exact there_row H0.out rfl
          case t2 => exact hi2 _ rfl
          case t3 => exact all_oneCell_toArray (row_one _)
          · refine bodyPost_ret (v := .tuple #[.agg (row zeros).toArray, .iface 35 (.int .i64 12)]) (results_mid2 (t2 := 28) Tryz.results174 _ _ w.heap.size _ _ _ rfl rfl (World.rangeAt_setCells_same _ w.heap.size 0 _ ?_) Tryz.underlying32 rfl (hi2 _ rfl)) rfl ⟨below_setCells (Nat.le_refl _) _ _ _ _ HB.out, fun h => absurd (h.2 j hlt) (by rw [← HC.out, hneg]; omega), fun _ => rfl⟩
            exact there_row H0.out rfl
      · obtain rfl : j = 40 := by omega
        go_wp2_with (first | refine wpList_load_mid rfl 32 _ rfl (w.heap.size + 1) 0 rfl (row (idAt s 40)) _ (range_row H1.out) Tryz.underlying32 rfl (hi2 _ (idAt_len s 40)) ?_ | refine wpList_store_mid rfl 32 _ _ rfl w.heap.size 0 (row (idAt s 40)).toArray rfl rfl ?t1 ?t2 ?t3 ?_)
        case t1 => rw [show (row (idAt s 40)).toArray.size = 20 from by rw [List.size_toArray, row_len, idAt_len]]; exact there_row H0.out rfl
        case t2 => rw [List.size_toArray]; exact hi2 _ (idAt_len s 40)
        case t3 => exact all_oneCell_toArray (row_one _)
        · refine bodyPost_ret (v := .tuple #[.agg (row (idAt s 40)).toArray, .nilIface]) (results_mid2 (t2 := 28) Tryz.results174 _ _ w.heap.size _ _ _ rfl rfl (World.rangeAt_setCells_same wr w.heap.size 0 _ ?_) Tryz.underlying32 rfl (hi2 _ (idAt_len s 40))) rfl ⟨below_setCells (Nat.le_refl _) _ _ _ _ HB.out, fun _ => rfl, fun h => absurd ⟨h40, hgd⟩ h⟩
          rw [row_len, idAt_len]; exact there_row H0.out rfl
  · have hnq : (s.size : Int) ≠ 40 := by omega
    have H0 : Hid ((w.alloc (.cells (row zeros).toArray 32)).heap[w.heap.size]? = some (.cells (row zeros).toArray 32 (0, 0))) := heap_alloc_new w _
    have HB : Hid (Below w.heap.size w (w.alloc (.cells (row zeros).toArray 32))) := (Below.refl _ _).alloc (Nat.le_refl _) _
    go_enter Tryz.func174, Tryz.ntmps174
    go_wp2_with (refine wpList_store_mid rfl 32 _ _ rfl w.heap.size 0 (row zeros).toArray rfl rfl ?t1 ?t2 ?t3 ?_)
    case t1 => exact there_row H0.out rfl
    case t2 => exact hi2 _ rfl
    case t3 => exact all_oneCell_toArray (row_one _)
    · refine bodyPost_ret (v := .tuple #[.agg (row zeros).toArray, .iface 35 (.int .i64 12)]) (results_mid2 (t2 := 28) Tryz.results174 _ _ w.heap.size _ _ _ rfl rfl (World.rangeAt_setCells_same _ w.heap.size 0 _ ?_) Tryz.underlying32 rfl (hi2 _ rfl)) rfl ⟨below_setCells (Nat.le_refl _) _ _ _ _ HB.out, fun h => absurd h.1 h40, fun _ => rfl⟩
      exact there_row H0.out rfl
end Go.Proofs.YtbpdielmdhhdfaaGreatDoor.Hx
namespace Go.Proofs.YtbpdielmdhhdfaaGreatDoor
open Go.RowKit
set_option linter.unusedVariables false
set_option linter.unusedSimpArgs false
structure Rd (g : Nat) (r : ByteArray) (w w' : World) : Prop where
  os : w'.os = w.os
  tape : w'.tape = w.tape
  output : w'.output = w.output
  size : w.heap.size ≤ w'.heap.size
  block : ∀ b, b < w.heap.size → b ≠ g → w'.heap[b]? = w.heap[b]?
  box : w'.heap[g]? = some (.cells #[.string r] 220 (0, 0))
theorem lt_of_some {w : World} {g : Nat} {o : Obj} (h : w.heap[g]? = some o) : g < w.heap.size := (Array.getElem?_eq_some_iff.1 h).1
theorem Rd.below {g : Nat} {r : ByteArray} {w w' : World} (h : Rd g r w w') {B : Nat} {w0 : World} (hb : Below B w0 w) (hB : B ≤ g) (hg : g < w.heap.size) : Below B w0 w' :=
  ⟨h.os.trans hb.os, h.tape.trans hb.tape, h.output.trans hb.output, Nat.le_trans hb.size h.size, fun k hk => (h.block k (by omega) (by omega)).trans (hb.block k hk)⟩
theorem Rd.wide {g : Nat} {r : ByteArray} {w w1 w2 w3 : World} (hg : g < w.heap.size) (h1 : Below w.heap.size w w1) (h : Rd g r w1 w2) (h2 : Below w.heap.size w2 w3) : Rd g r w w3 :=
  ⟨h2.os.trans (h.os.trans h1.os), h2.tape.trans (h.tape.trans h1.tape), h2.output.trans (h.output.trans h1.output), Nat.le_trans h1.size (Nat.le_trans h.size h2.size), fun b hb hne => (h2.block b hb).trans ((h.block b (Nat.lt_of_lt_of_le hb h1.size) hne).trans (h1.block b hb)), (h2.block g hg).trans h.box⟩
theorem Rd.cell {g : Nat} {r : ByteArray} {w w' : World} (h : Rd g r w w') {p : Addr} (hp : p.block < w.heap.size) (hne : p.block ≠ g) : w'.cell? p = w.cell? p := by
  simp only [World.cell?, h.block p.block hp hne]
theorem Mx.rd {g : Nat} {r : ByteArray} {w w' : World} (h : Mx w) (hr : Rd g r w w') (hg : 1 < g) : Mx w' := by
  obtain ⟨m, hm⟩ := h
  refine ⟨m, ?_⟩
  have h1 : 1 < w.heap.size := by
    rcases Nat.lt_or_ge 1 w.heap.size with h' | h'
    · exact h'
    · simp [World.cell?, Array.getElem?_eq_none h'] at hm
  exact (hr.cell (p := ⟨1, 0, none⟩) h1 (by simp; omega)).trans hm
set_option maxRecDepth 20000 in
theorem rline_any (s : List UInt8) (hs : s.length ≤ 1000000) (g : Nat) (w : World) (hg : w.heap[g]? = some (.cells #[.string ⟨s.toArray⟩] 220 (0, 0))) (hm : Mx w) :
    Calls Tryz.prog 142 #[.pointer (some ⟨g, 0, none⟩)] w fun e w' => e = .returned (.string ⟨(Lib.cut s [10]).1.toArray⟩) ∧ Rd g ⟨(Lib.cut s [10]).2.1.toArray⟩ w w' := by
  obtain ⟨S, HS⟩ : ∃ S : ByteArray, Hid (⟨s.toArray⟩ = S) := ⟨_, rfl⟩
  obtain ⟨F, HF⟩ : ∃ S : ByteArray, Hid (⟨(Lib.cut s [10]).1.toArray⟩ = S) := ⟨_, rfl⟩
  obtain ⟨R, HR⟩ : ∃ S : ByteArray, Hid (⟨(Lib.cut s [10]).2.1.toArray⟩ = S) := ⟨_, rfl⟩
  obtain ⟨fd, HFD⟩ : ∃ b : Bool, Hid ((Lib.cut s [10]).2.2 = b) := ⟨_, rfl⟩
  have HC : Hid (Calls Tryz.prog 82 #[.string S, .string ⟨#[10]⟩] w fun e w' => e = .returned (.tuple #[.string F, .string R, .bool fd]) ∧ ∃ q, w' = w.drewN q) := hid (by
    rw [← HS.out, ← HF.out, ← HR.out, ← HFD.out]
    exact scut_any s [10] w hs hm)
  rw [HF.out, HR.out]
  rw [HS.out] at hg
  have HG : Hid (w.heap[g]? = some (.cells #[.string S] 220 (0, 0))) := hg
  have hc : w.cell? ⟨g, 0, none⟩ = some (.string S) := by rw [cell_of_row w g 0 _ _ _ hg]; rfl
  have hf : w.frozen? ⟨g, 0, none⟩ = false := frozen_of_row w g 0 _ _ hg
  clear hg hm
  go_enter Tryz.func142, Tryz.ntmps142
  go_wp2_with fail
  refine HC.out.mono ?_
  rintro ev w' ⟨rfl, q, rfl⟩
  go_wp2
  go_ret
  refine ⟨rfl, rfl, rfl, rfl, Nat.le_of_eq ?_, ?_, ?_⟩
  · simp [World.setCell, heap_drewN]
  · intro b hb hne
    exact heap_setCell_other (w.drewN q) ⟨g, 0, none⟩ b _ hne
  · exact (heap_setCell_same (w.drewN q) g 0 _ 220 _ HG.out)
def fld (s wd : List UInt8) : List UInt8 := Lib.trimPrefix (Lib.cut s [10]).1 (wd ++ [32])
set_option maxRecDepth 20000 in
theorem rfield_any (s wd : List UInt8) (hs : s.length ≤ 1000000) (hw : wd.length ≤ 100) (g : Nat) (w : World) (hg : w.heap[g]? = some (.cells #[.string ⟨s.toArray⟩] 220 (0, 0))) (hm : Mx w) :
    Calls Tryz.prog 141 #[.pointer (some ⟨g, 0, none⟩), .string ⟨wd.toArray⟩] w fun e w' => e = .returned (.string ⟨(fld s wd).toArray⟩) ∧ Rd g ⟨(Lib.cut s [10]).2.1.toArray⟩ w w' := by
  obtain ⟨F, HF⟩ : ∃ S : ByteArray, Hid (⟨(Lib.cut s [10]).1.toArray⟩ = S) := ⟨_, rfl⟩
  obtain ⟨R, HR⟩ : ∃ S : ByteArray, Hid (⟨(Lib.cut s [10]).2.1.toArray⟩ = S) := ⟨_, rfl⟩
  obtain ⟨Wd, HW⟩ : ∃ S : ByteArray, Hid (⟨wd.toArray⟩ = S) := ⟨_, rfl⟩
  obtain ⟨W2, HW2⟩ : ∃ S : ByteArray, Wd ++ ⟨#[32]⟩ = S := ⟨_, rfl⟩
  obtain ⟨T, HT⟩ : ∃ S : ByteArray, Hid (⟨(fld s wd).toArray⟩ = S) := ⟨_, rfl⟩
  have HL : Hid (Calls Tryz.prog 142 #[.pointer (some ⟨g, 0, none⟩)] w fun e w' => e = .returned (.string F) ∧ Rd g R w w') := hid (by rw [← HF.out, ← HR.out]; exact rline_any s hs g w hg hm)
  have HP : Hid (∀ w, Calls Tryz.prog 177 #[.string F, .string W2] w fun e w' => e = .returned (.string T) ∧ w' = w) := fun w => by
    have h2 : W2 = ⟨(wd ++ [32]).toArray⟩ := by rw [← HW2, ← HW.out, show (⟨#[32]⟩ : ByteArray) = ⟨[32].toArray⟩ from rfl]; exact str_app _ _
    rw [h2, ← HF.out, ← HT.out]
    exact Any.strings_TrimPrefix Tryz.lays101 ⟨(Lib.cut s [10]).1.toArray⟩ ⟨(wd ++ [32]).toArray⟩ w
  have hWs : Wd.size ≤ 100 := by rw [← HW.out]; simpa [ByteArray.size] using hw
  have g1 : ¬ 9223372036854775807 < Wd.size + 1 := by omega
  have g2 : ¬ 9223372036854775807 ≤ Wd.size := by omega
  have l3 : (⟨#[32]⟩ : ByteArray).size = 1 := rfl
  rw [HR.out, HW.out, HT.out]
  clear hg hm
  go_enter Tryz.func141, Tryz.ntmps141
  go_wp2_with fail
  refine HL.out.mono ?_
  rintro ev w1 ⟨rfl, hr⟩
  have HRD : Hid (Rd g R w w1) := hr
  clear hr
  go_wp2_with fail
  refine (HP.out w1).mono ?_
  rintro ev w' ⟨rfl, rfl⟩
  go_wp2
  go_ret
  exact ⟨rfl, HRD.out⟩
end Go.Proofs.YtbpdielmdhhdfaaGreatDoor
namespace Go.Proofs.YtbpdielmdhhdfaaGreatDoor
open Go.RowKit
set_option linter.unusedVariables false
theorem zero25 (w : World) : (zeroValue 32).run Tryz.prog w = .ok (.agg (row .u8 z20).toArray) w := by kernel_rfl
end Go.Proofs.YtbpdielmdhhdfaaGreatDoor
namespace Go.Proofs.YtbpdielmdhhdfaaGreatDoor
open Go.RowKit
set_option linter.unusedVariables false
set_option linter.unusedSimpArgs false
def PId (t : List UInt8) (fr : List Int) : Prop := fr.length = 20 ∧ (∀ n ∈ fr, 0 ≤ n ∧ n < 256) ∧ ((t.length = 40 ∧ Hx.good ⟨t.toArray⟩) → fr = Hx.idAt ⟨t.toArray⟩ 40)
def PostP (t : List UInt8) (e : Ending) : Prop := ∃ (fr : List Int) (ev : Value), e = .returned (.tuple #[.agg (row .u8 fr).toArray, ev]) ∧ PId t fr
theorem parse_short (t : List UInt8) (w : World) (hl : t.length ≤ 300000) : Calls Tryz.prog 174 #[.string ⟨t.toArray⟩] w fun e w' => Below w.heap.size w w' ∧ PostP t e := by
  have hsz : (⟨t.toArray⟩ : ByteArray).size = t.length := by simp [ByteArray.size]
  refine (Hx.parse_prog ⟨t.toArray⟩ w (by rw [hsz]; exact hl)).mono ?_
  rintro e w' ⟨hb, h1, h2⟩
  refine ⟨hb, ?_⟩
  rw [hsz] at h1 h2
  by_cases h : t.length = 40 ∧ Hx.good ⟨t.toArray⟩
  · exact ⟨Hx.idAt ⟨t.toArray⟩ 40, _, h1 h, Hx.idAt_len _ _, fun n hn => Hx.idAt_bd _ _ n hn, fun _ => rfl⟩
  · exact ⟨Hx.zeros, _, h2 h, rfl, fun n hn => by rw [List.eq_of_mem_replicate hn]; omega, fun h3 => absurd h3 h⟩
def PostI (s wd : List UInt8) (g : Nat) (w : World) (e : Ending) (w' : World) : Prop := ∃ fr : List Int, e = .returned (.agg (row .u8 fr).toArray) ∧ PId (fld s wd) fr ∧ Rd g ⟨(Lib.cut s [10]).2.1.toArray⟩ w w'
theorem Tryz.results138 : Tryz.f138.results = #[.cell 4 32] := by kernel_rfl
set_option maxRecDepth 20000 in
set_option maxHeartbeats 1000000 in
theorem rid_any (s wd : List UInt8) (hs : s.length ≤ 200000) (hw : wd.length ≤ 100) (hfl : (fld s wd).length ≤ 300000) (g : Nat) (w : World) (hg : w.heap[g]? = some (.cells #[.string ⟨s.toArray⟩] 220 (0, 0))) (hm : Mx w) :
    Calls Tryz.prog 138 #[.pointer (some ⟨g, 0, none⟩), .string ⟨wd.toArray⟩] w (PostI s wd g w) := by
  obtain ⟨zr, HZ⟩ : ∃ zr : Array Value, Hid (zr = (row .u8 z20).toArray) := ⟨_, rfl⟩
  have hz25 := zero25
  rw [← HZ.out] at hz25
  obtain ⟨R, HR⟩ : ∃ S : ByteArray, Hid (⟨(Lib.cut s [10]).2.1.toArray⟩ = S) := ⟨_, rfl⟩
  obtain ⟨T, HT⟩ : ∃ S : ByteArray, Hid (⟨(fld s wd).toArray⟩ = S) := ⟨_, rfl⟩
  obtain ⟨Wd, HWD⟩ : ∃ S : ByteArray, Hid (⟨wd.toArray⟩ = S) := ⟨_, rfl⟩
  obtain ⟨G, HG⟩ : ∃ G, Hid (w.heap.size = G) := ⟨_, rfl⟩
  obtain ⟨w0, HW0⟩ : ∃ w0, Hid (w.alloc (.cells zr 32) = w0) := ⟨_, rfl⟩
  have HS0 : Hid (w0.heap.size = G + 1) := hid (by rw [← HW0.out, ← HG.out]; simp)
  have HR0 : Hid (w0.heap[G]? = some (.cells (row .u8 z20).toArray 32 (0, 0))) := hid (by
    have := heap_alloc_new w (.cells zr 32)
    rw [HW0.out, HZ.out] at this
    rw [← HG.out]; exact this)
  have HB0 : Hid (Below G w w0) := hid (by rw [← HW0.out, ← HG.out]; exact (Below.refl _ w).alloc (Nat.le_refl _) _)
  have HGL : Hid (g < G) := hid (by rw [← HG.out]; exact lt_of_some hg)
  have HF : Hid (Calls Tryz.prog 141 #[.pointer (some ⟨g, 0, none⟩), .string Wd] w0 fun e w' => e = .returned (.string T) ∧ Rd g R w0 w') := hid (by
    rw [← HWD.out, ← HT.out, ← HR.out]
    refine rfield_any s wd (by omega) hw g w0 ?_ (hm.below (by rw [HG.out]; exact HB0.out))
    exact (HB0.out.block g HGL.out).trans hg)
  have HP : Hid (∀ W, Calls Tryz.prog 174 #[.string T] W fun e w' => Below W.heap.size W w' ∧ PostP (fld s wd) e) := fun W => by
    rw [← HT.out]
    exact parse_short _ W hfl
  have HPE : Hid (∀ fr W, PId (fld s wd) fr → Rd g R w W → PostI s wd g w (.returned (.agg (row .u8 fr).toArray)) W) := fun fr W h1 h2 => ⟨fr, rfl, h1, by rw [HR.out]; exact h2⟩
  rw [HWD.out]
  clear hg hm hfl
  go_enter Tryz.func138, Tryz.ntmps138
  go_wp2_with fail
  rw [HG.out, HW0.out]
  refine HF.out.mono ?_
  rintro ev w1 ⟨rfl, hr⟩
  have HRD : Hid (Rd g R w0 w1) := hr
  clear hr
  go_wp2_with fail
  refine (HP.out w1).mono ?_
  rintro ev w2 ⟨hb2, fr, ev2, rfl, hpid⟩
  have HPI : Hid (PId (fld s wd) fr) := hpid
  have hfl : fr.length = 20 := hpid.1
  have HB2 : Hid (Below (G + 1) w1 w2) := hid (by
    refine hb2.mono ?_
    rw [← HS0.out]
    exact HRD.out.size)
  clear hpid hb2
  have hi32 : (Tryz.prog.info? 32).map (·.size) = some (row .u8 fr).length := by rw [row_len, hfl]; exact Tryz.size32
  have T2 : Hid ((Tryz.prog.info? 32).map (·.size) = some (row .u8 fr).toArray.size) := hid (by rw [row_size, hfl]; exact Tryz.size32)
  have T3 : Hid ((row .u8 fr).toArray.all (·.oneCell') = true) := all_oneCell_toArray (row_one _ _)
  obtain ⟨G5, HG5⟩ : ∃ G5, Hid (w2.heap.size = G5) := ⟨_, rfl⟩
  obtain ⟨w3, HW3⟩ : ∃ w3, Hid (w2.alloc (.cells zr 32) = w3) := ⟨_, rfl⟩
  have HR3 : Hid (w3.heap[G5]? = some (.cells (row .u8 z20).toArray 32 (0, 0))) := hid (by
    have := heap_alloc_new w2 (.cells zr 32)
    rw [HW3.out, HZ.out] at this
    rw [← HG5.out]; exact this)
  have HLT : Hid (G < G5) := hid (by
    have h1 := HB2.out.size
    have h2 := HRD.out.size
    rw [HS0.out] at h2
    rw [HG5.out] at h1
    omega)
  have HB3 : Hid (Below (G + 1) w1 w3) := hid (by rw [← HW3.out]; exact HB2.out.alloc (by rw [HG5.out]; have := HLT.out; omega) _)
  have HR1 : Hid (w3.heap[G]? = some (.cells (row .u8 z20).toArray 32 (0, 0))) := hid ((HB3.out.block G (by omega)).trans ((HRD.out.block G (by rw [HS0.out]; omega) (by have := HGL.out; omega)).trans HR0.out))
  have T1 : Hid (w3.there G5 0 (row .u8 fr).toArray.size) := hid (by rw [row_size, hfl]; exact there_row HR3.out rfl)
  have T4 : Hid (w3.there G5 0 (row .u8 fr).length) := hid (by rw [row_len, hfl]; exact there_row HR3.out rfl)
  obtain ⟨w4, HW4⟩ : ∃ w4, Hid (w3.setCells G5 0 (row .u8 fr) = w4) := ⟨_, rfl⟩
  have TL : Hid (w4.rangeAt G5 0 (row .u8 fr)) := hid (by rw [← HW4.out]; exact World.rangeAt_setCells_same w3 G5 0 _ T4.out)
  have T5 : Hid (w4.there G 0 (row .u8 fr).toArray.size) := hid (by rw [row_size, hfl, ← HW4.out]; exact World.there_setCells (there_row HR1.out rfl) _ _ _)
  have T6 : Hid (w4.there G 0 (row .u8 fr).length) := hid (by rw [row_len, hfl, ← HW4.out]; exact World.there_setCells (there_row HR1.out rfl) _ _ _)
  have HB4 : Hid (Below G w1 w4) := hid (by rw [← HW4.out]; exact below_setCells (by have := HLT.out; omega) _ _ _ _ (HB3.out.mono (by omega)))
  have C1 : Hid ((w2.alloc (.cells zr 32)).there w2.heap.size 0 (row .u8 fr).toArray.size) := hid (by rw [HG5.out, HW3.out]; exact T1.out)
  have CL : Hid (((w2.alloc (.cells zr 32)).setCells w2.heap.size 0 (row .u8 fr)).rangeAt w2.heap.size 0 (row .u8 fr)) := hid (by rw [HG5.out, HW3.out, HW4.out]; exact TL.out)
  have C5 : Hid (((w2.alloc (.cells zr 32)).setCells w2.heap.size 0 (row .u8 fr)).there G 0 (row .u8 fr).toArray.size) := hid (by rw [HG5.out, HW3.out, HW4.out]; exact T5.out)
  go_wp2_with (first
    | refine wpList_store_mid rfl 32 _ _ rfl w2.heap.size 0 (row .u8 fr).toArray rfl rfl C1.out T2.out T3.out ?_
    | refine wpList_load_mid rfl 32 _ rfl w2.heap.size 0 rfl (row .u8 fr) _ CL.out Tryz.underlying32 rfl hi32 ?_
    | refine wpList_store_mid rfl 32 _ _ rfl G 0 (row .u8 fr).toArray rfl rfl C5.out T2.out T3.out ?_)
  rw [HG5.out, HW3.out, HW4.out]
  refine bodyPost_ret (v := .agg (row .u8 fr).toArray) (results_mid Tryz.results138 _ _ G _ _ rfl (World.rangeAt_setCells_same w4 G 0 _ T6.out) Tryz.underlying32 rfl hi32) rfl (HPE.out fr _ HPI.out ?_)
  refine Rd.wide (by rw [HG.out]; exact HGL.out) (by rw [HG.out]; exact HB0.out) HRD.out ?_
  rw [HG.out]
  exact below_setCells (Nat.le_refl _) _ _ _ _ HB4.out
end Go.Proofs.YtbpdielmdhhdfaaGreatDoor
