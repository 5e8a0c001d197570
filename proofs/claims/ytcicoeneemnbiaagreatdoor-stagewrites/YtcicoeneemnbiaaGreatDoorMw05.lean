import Derived.Test.YtcicoeneemnbiaaGreatDoorMw02
import Derived.Test.YtcicoeneemnbiaaGreatDoorMw04
import Derived.Maps.AppendAt
import Derived.Test.YtcicoeneemnbiaaGreatDoorMw01
import Derived.Laws.CopyOwn
import Derived.Deep.QuietTactic
import Derived.BigQuiet
import Derived.Laws.IdiomCopy
import Derived.ChangeKeysEq
import Derived.Laws.StructEq
import Derived.Shelf.Small.Utf8
import Derived.Shelf.Small.Strs
import Derived.Shelf.Strings.Runes
import Derived.Shelf.Strings.IndexAnyAll
import Derived.Test.YtcicoeneemnbiaaGreatDoorProg
namespace Go.Proofs.YtcicoeneemnbiaaGreatDoor
open Go.RowKit
set_option linter.unusedVariables false
theorem owns_shape {w : World} {B : Nat} {e : TypeId} {s : Nat} {v : Value} {n : Nat} {xs : List Value} (h : w.ownsRow B e s v n xs) : ∃ a cp, v = .slice a n cp := by
  obtain ⟨_, ⟨rfl, rfl⟩ | ⟨g, cap, cur, rfl, _⟩⟩ := h
  · exact ⟨none, 0, rfl⟩
  · exact ⟨_, cap, rfl⟩
theorem wpList_append_run {P : Program} {w : World} {ops : Array Oper} {rest : List Oper} {o : Oper} {a : Act} {Q : Exit → Act → World → Prop} (hgd : o.guard = none) (s x : Operand) (t : TypeId)
    (ho : o.op = .call { callee := .builtin .append, args := #[s, x], argTypes := #[t, t] }) (sv xv v : Value) (w2 : World) (hs : a.eval s = sv) (hx : a.eval x = xv) (hrun : (Builtin.append_ #[t, t] o.type #[sv, xv]).run P w = .ok v w2) (h : wpList P ops Q rest (a.put o.dst v) w2) :
    wpList P ops Q (o :: rest) a w :=
  wpList_plain hgd fun K hK => by
    unfold Oper.wp execOp
    simp only [ho, resolve, invoke, builtin, Sem.run_bind, Sem.run_pure, Result.andThen_ok, List.map_toArray, List.map_cons, List.map_nil, hs, hx, hrun]
    exact hK _ _ h
theorem append_nil (cap : Nat) (w : World) : (Builtin.append_ #[23, 23] 23 #[.slice none 0 0, .slice none 0 cap]).run Tryz.prog w = .ok (.slice none 0 0) w := by kernel_rfl
theorem append_first (a : Option Addr) (cap : Nat) (zs : List Int) (w : World) (B : Nat) (hB : B ≤ w.heap.size) (hl : zs.length ≤ 300000) (hc : 0 < zs.length → ∃ b off, a = some ⟨b, off, none⟩ ∧ At w b off zs) :
    ∃ w1 ao cp, (Builtin.append_ #[23, 23] 23 #[.slice none 0 0, .slice a zs.length cap]).run Tryz.prog w = .ok (.slice ao zs.length cp) w1 ∧ w1.ownsRow B 5 1 (.slice ao zs.length cp) zs.length (row .u8 zs) ∧ w.grownBy w1 none := by
  obtain ⟨i5, hi, hz0, hz1, hz2⟩ := info_parts Tryz.info5
  cases a with
  | none =>
    have h0 : zs.length = 0 := by
      rcases Nat.eq_zero_or_pos zs.length with h | h
      · exact h
      · obtain ⟨b, off, h1, -⟩ := hc h; cases h1
    obtain rfl : zs = [] := List.eq_nil_of_length_eq_zero h0
    exact ⟨w, none, 0, append_nil cap w, World.ownsRow_nil w B 5 1, World.grownBy.refl _ _⟩
  | some ad =>
    obtain ⟨v', w', hr, h2, h3, -, -⟩ := run_append_own_at (P := Tryz.prog) w B 23 23 5 i5 (.int .u8 0) 1 1 Tryz.underlying23 hi hz0 hz1 hz2 rfl (by omega) (.slice none 0 0) 0 [] (World.ownsRow_nil w B 5 1) ad zs.length cap (row .u8 zs) (by rw [row_len]; omega)
      (fun j u hj => by
        have hjm : j < zs.length := by rcases Nat.lt_or_ge j zs.length with h | h; exact h; rw [List.getElem?_eq_none (by rw [row_len]; exact h)] at hj; cases hj
        obtain ⟨b, off, h1, hat⟩ := hc (by omega)
        cases h1
        rw [row_at .u8 zs j hjm] at hj
        cases hj
        rw [addr_add]; exact hat j hjm) (row_one _ _) (by unfold maxLen; omega) (by omega) hB
    rw [Nat.zero_add, List.nil_append] at h2
    obtain ⟨ao, cp, rfl⟩ := owns_shape h2
    exact ⟨w', ao, cp, hr, h2, h3⟩
theorem slice22lh (b L cp m : Nat) (w : World) (h1 : m + 64 ≤ L) (h2 : L ≤ cp) : (Instr.slice 23 (.slice (some ⟨b, 0, none⟩) L cp) (some (.int .i64 m)) (some (.int .i64 ((m : Int) + 64))) none).run Tryz.prog w = .ok (.slice (some ⟨b, m, none⟩) 64 (cp - m : Nat)) w := by
  rw [run_slice_lh w 23 _ L cp und22 .i64 .i64 m ((m : Int) + 64) (by omega) (by omega) (by omega), size22r]
  simp only [Result.andThen_ok, sliced]
  rw [if_neg (by omega)]
  simp [addr_add]
  omega
theorem pad_iff2 (n j : Nat) (h : j ≤ pads n) : ((n + 1 + j) % 64 = 56) ↔ j = pads n := by unfold pads at *; omega
set_option maxRecDepth 20000 in
set_option maxHeartbeats 4000000 in
theorem ref_any (a : Option Addr) (cap : Nat) (zs : List Int) (w : World) (hl : zs.length ≤ 300000) (hz : IsB zs) (hc : 0 < zs.length → ∃ b off, a = some ⟨b, off, none⟩ ∧ b < w.heap.size ∧ At w b off zs) :
    Calls Tryz.prog 17 #[.slice a zs.length cap] w fun e w' => e = .returned (.agg (row .u8 (sha zs)).toArray) ∧ Below w.heap.size w w' := by
  obtain ⟨i5, hi, hz0, hz1, hz2⟩ := info_parts Tryz.info5
  obtain ⟨zr, HZ⟩ : ∃ zr : Array Value, Hid (zr = (row .u8 z20).toArray) := ⟨_, rfl⟩
  have hz24 := zero24
  rw [← HZ.out] at hz24
  obtain ⟨wA, HWA⟩ : ∃ wA, Hid (wA = w.alloc (.cells zr 29)) := ⟨_, rfl⟩
  have hsA : wA.heap.size = w.heap.size + 1 := by rw [HWA.out]; simp
  have HRA : Hid (wA.heap[w.heap.size]? = some (.cells (row .u8 z20).toArray 29 (0, 0))) := hid (by rw [HWA.out, HZ.out]; exact heap_alloc_new w _)
  have HBA : Hid (Below w.heap.size w wA) := hid (by rw [HWA.out]; exact (Below.refl _ w).alloc (Nat.le_refl _) _)
  obtain ⟨w1, ao, cp, hrun, hown, hgrow⟩ := append_first a cap zs wA (w.heap.size + 1) (by omega) hl (fun h => by obtain ⟨b, off, h1, h2, h3⟩ := hc h; exact ⟨b, off, h1, fun i hi => (HBA.out.cell (p := ⟨b, off + i, none⟩) h2).trans (h3 i hi)⟩)
  obtain ⟨n, HN⟩ : ∃ n, Hid (n = zs.length) := ⟨_, rfl⟩
  rw [← HN.out] at hrun hown hl ⊢
  have hg1 := hgrow.size
  have HR1 : Hid (w1.heap[w.heap.size]? = some (.cells (row .u8 z20).toArray 29 (0, 0))) := (hgrow.block _ (by omega) (by simp)).trans HRA.out
  have HB1 : Hid (Below w.heap.size w w1) := HBA.out.grown hgrow (by omega) (fun k hk => by cases hk)
  have hz1s : w.heap.size + 1 ≤ w1.heap.size := by omega
  rw [HWA.out] at hrun
  clear hgrow hg1 HRA HBA hsA HWA
  go_enter Tryz.func17, Tryz.ntmps17
  go_wp2_with (first
    | refine wpList_append_run rfl _ _ 23 rfl (.slice none 0 0) (.slice a n cap) _ _ rfl rfl hrun ?_
    | (refine wpList_append_lies _ rfl _ _ _ rfl (w.heap.size + 1) 5 i5 (.int .u8 0) 1 1 Tryz.underlying23 hi hz0 hz1 hz2 rfl (by omega) (.slice ao n cp) n (row .u8 zs) rfl (by exact hown.alloc _) ⟨w1.heap.size, 0, none⟩ 1 1 [.int .u8 128] rfl rfl (by intro j u hj; match j, hj with | 0, hj => simp at hj; subst hj; simp [Addr.add]) (by intro u hu; simp at hu; subst hu; rfl) (by omega) (by unfold maxLen; omega) (by omega) (by simp; omega) (w1.heap.size + 1) (by simp) ?_; intro g2 cp2 w2 hown2 hgrow2 hat2 hlt2))
  have HX2 : Hid (Below (w.heap.size + 1) w1 w2) := below_step (Below.refl _ _) hz1s (World.grownBy_alloc w1 _ none) hgrow2 (fun k hk => (own_lt hown k hk).1)
  have HO2 : Hid (w2.ownsRow (w.heap.size + 1) 5 1 (.slice (some ⟨g2, 0, none⟩) (n + 1 + 0 : Nat) cp2) (n + 1 + 0) (row .u8 (zs ++ [128]))) := hid (by rw [row_snoc]; exact hown2)
  clear hown2 hgrow2 hat2 hown hrun
  have hp63 := pads_le n
  go_loopg [3] (pads n) (fun g s wr => ∃ (j gb cp : Nat) (ls : List Int), j ≤ pads n ∧ g = pads n - j ∧ s = .slice (some ⟨gb, 0, none⟩) (n + 1 + j : Nat) cp ∧ Hid (ls = zs ++ 128 :: List.replicate j 0) ∧ wr.ownsRow (w.heap.size + 1) 5 1 (.slice (some ⟨gb, 0, none⟩) (n + 1 + j : Nat) cp) (n + 1 + j) (row .u8 ls) ∧ Hid (Below (w.heap.size + 1) w1 wr))
  case atStart => exact ⟨0, g2, cp2, zs ++ [128], by omega, rfl, rfl, rfl, HO2.out, HX2⟩
  case round =>
    clear HO2 HX2 hlt2
    obtain ⟨j, gb, cp, ls, hj, hk, rfl, HLs, hown, HB⟩ := hrel
    by_cases hlt : j < pads n
    · have hc : ((n : Int) + 1 + j) % 64 ≠ 56 := by have := pad_iff2 n j hj; omega
      go_wp2_with (refine wpList_append_lies _ rfl _ _ _ rfl (w.heap.size + 1) 5 i5 (.int .u8 0) 1 1 Tryz.underlying23 hi hz0 hz1 hz2 rfl (by omega) (.slice (some ⟨gb, 0, none⟩) (n + 1 + j : Nat) cp) (n + 1 + j) (row .u8 ls) rfl (by exact hown.alloc _) ⟨wr.heap.size, 0, none⟩ 1 1 [.int .u8 0] rfl rfl (by intro j u hj; match j, hj with | 0, hj => simp at hj; subst hj; simp [Addr.add]) (by intro u hu; simp at hu; subst hu; rfl) (by omega) (by unfold maxLen; omega) (by omega) (by have := HB.out.size; simp; omega) (wr.heap.size + 1) (by simp) ?_; intro g2 cp2 w3 hown1 hgrow hat hlt2)
      have HB2 : Hid (Below (w.heap.size + 1) w1 w3) := below_step HB.out hz1s (World.grownBy_alloc wr _ none) hgrow (fun k hk => (own_lt hown k hk).1)
      have HO : Hid (w3.ownsRow (w.heap.size + 1) 5 1 (.slice (some ⟨g2, 0, none⟩) (n + 1 + j + 1 : Nat) cp2) (n + 1 + j + 1) (row .u8 (ls ++ [0]))) := hid (by rw [row_snoc]; exact hown1)
      clear hown1 hgrow hat hown hlt2
      go_wp2
      go_roundg (pads n - (j + 1))
      case measure => omega
      case rel => exact ⟨j + 1, g2, cp2, ls ++ [0], by omega, rfl, rfl, hid (by rw [HLs.out, List.replicate_succ', List.append_assoc, List.cons_append]), HO.out, HB2⟩
    · obtain rfl : j = pads n := by omega
      have hc0 : (n + 1 + pads n) % 64 = 56 := (pad_iff2 n (pads n) (Nat.le_refl _)).2 rfl
      obtain ⟨q, HQ⟩ : ∃ q, Hid (q = n + 1 + pads n) := ⟨_, rfl⟩
      have hq64 : q ≤ n + 64 := by have := HQ.out; omega
      rw [← HQ.out] at hown
      have hc2 : (q : Int) % 64 = 56 := by have := HQ.out; omega
      rw [← HQ.out]
      have HLq : Hid (ls = zs ++ 128 :: List.replicate (pads n) 0) := HLs.out
      clear hlt hj hk hc0
      go_wp2
      clear hc2
      go_loopg [3, 5] 8 (fun g s i wr => ∃ (j gb cp : Nat) (ls : List Int), j ≤ 8 ∧ g = 8 - j ∧ i = .int .i64 (7 - (j : Int)) ∧ s = .slice (some ⟨gb, 0, none⟩) (q + j : Nat) cp ∧ Hid (ls = zs ++ (128 :: List.replicate (pads n) 0 ++ (List.range j).map (be8 (8 * n)))) ∧ wr.ownsRow (w.heap.size + 1) 5 1 (.slice (some ⟨gb, 0, none⟩) (q + j : Nat) cp) (q + j) (row .u8 ls) ∧ Hid (Below (w.heap.size + 1) w1 wr))
      case atStart => exact ⟨0, gb, cp, ls, by omega, rfl, rfl, rfl, hid (by rw [HLq.out]; simp), hown, HB⟩
      case round =>
        clear hown HB
        obtain ⟨j, gb, cp, ls, hj, hk, rfl, rfl, HLs, hown, HB⟩ := hrel
        by_cases hlt : j < 8
        · obtain ⟨x, HX⟩ : ∃ x, Hid (x = be8 (8 * n) j) := ⟨_, rfl⟩
          obtain ⟨k, HK⟩ : ∃ k : Nat, Hid (k = 7 - j) := ⟨_, rfl⟩
          have hk7 : (7 : Int) - j = (k : Int) := by have := HK.out; omega
          have hk8 : k ≤ 7 := by have := HK.out; omega
          rw [hk7]
          have hx : (n : Int) * 8 / 2 ^ (8 * k) % 256 = x := by rw [HX.out, HK.out]; unfold be8; rw [Int.natCast_emod, Int.natCast_ediv, Int.natCast_mul, Int.natCast_pow, Int.mul_comm]; rfl
          go_wp2_with (refine wpList_append_lies _ rfl _ _ _ rfl (w.heap.size + 1) 5 i5 (.int .u8 0) 1 1 Tryz.underlying23 hi hz0 hz1 hz2 rfl (by omega) (.slice (some ⟨gb, 0, none⟩) (q + j : Nat) cp) (q + j) (row .u8 ls) rfl (by exact hown.alloc _) ⟨wr.heap.size, 0, none⟩ 1 1 [.int .u8 x] rfl rfl (by intro j u hj; match j, hj with | 0, hj => simp at hj; subst hj; simp [Addr.add]) (by intro u hu; simp at hu; subst hu; rfl) (by omega) (by unfold maxLen; omega) (by omega) (by have := HB.out.size; simp; omega) (wr.heap.size + 1) (by simp) ?_; intro g2 cp2 w3 hown1 hgrow hat hlt2)
          have HB2 : Hid (Below (w.heap.size + 1) w1 w3) := below_step HB.out hz1s (World.grownBy_alloc wr _ none) hgrow (fun k hk => (own_lt hown k hk).1)
          have HO : Hid (w3.ownsRow (w.heap.size + 1) 5 1 (.slice (some ⟨g2, 0, none⟩) (q + j + 1 : Nat) cp2) (q + j + 1) (row .u8 (ls ++ [x]))) := hid (by rw [row_snoc]; exact hown1)
          clear hown1 hgrow hat hown hx hlt2
          go_wp2
          go_roundg (8 - (j + 1))
          case measure => omega
          case rel => exact ⟨j + 1, g2, cp2, ls ++ [x], by omega, rfl, by have := HK.out; go_num, rfl, hid (by rw [HLs.out, HX.out, List.range_succ, List.map_append, List.append_assoc, List.append_assoc]; rfl), HO.out, HB2⟩
        · obtain rfl : j = 8 := by omega
          have HE : Hid (ls = zs ++ endOf n) := hid (by rw [HLs.out]; rfl)
          obtain ⟨T, HT⟩ : ∃ T, Hid (T = q + 8) := ⟨_, rfl⟩
          have hTl : ls.length = T := by rw [HE.out, List.length_append, endOf_len, ← HN.out]; have := HT.out; have := HQ.out; omega
          have hT64 : T % 64 = 0 := by have := end_mod n; rw [← hTl, HE.out, List.length_append, ← HN.out]; exact this
          have hTb : T ≤ 300200 := by have := HT.out; omega
          have hlsb : IsB ls := by rw [HE.out]; exact hz.app (endOf_isB n)
          rw [← HT.out] at hown
          rw [← HT.out]
          have hcpT : T ≤ cp := by
            rcases hown.2 with ⟨_, h0⟩ | ⟨g, cap, cur, hv, _, _, h1, _⟩
            · have := HT.out; omega
            · simp only [Value.slice.injEq] at hv; omega
          have hgbl := own_lt hown gb rfl
          have HAt : Hid (∀ i, i < T → wr.cell? ⟨gb, i, none⟩ = some (.int .u8 (ls.getD i 0))) := fun i hi => by rw [hown.cellAt i (by omega), row_at .u8 ls i (by omega)]
          have HRB : Hid (wr.heap[w.heap.size]? = some (.cells (row .u8 z20).toArray 29 (0, 0))) := (HB.out.block _ (by omega)).trans HR1.out
          have HBB : Hid (Below w.heap.size w wr) := HB1.out.trans (HB.out.mono (by omega))
          obtain ⟨wB, rfl⟩ : ∃ wB, wB = wr := ⟨_, rfl⟩
          have hzB : w.heap.size + 1 ≤ wB.heap.size := by have := HB.out.size; omega
          have HTh : Hid ((wB.alloc (.cells #[.int .u32 0, .int .u32 0, .int .u32 0, .int .u32 0, .int .u32 0] 75)).there wB.heap.size 0 5) := there_cells (heap_alloc_new wB _) rfl
          obtain ⟨w5, HW5⟩ : ∃ w5, Hid (w5 = (wB.alloc (.cells #[.int .u32 0, .int .u32 0, .int .u32 0, .int .u32 0, .int .u32 0] 75)).setCells wB.heap.size 0 (#[.int .u32 1732584193, .int .u32 4023233417, .int .u32 2562383102, .int .u32 271733878, .int .u32 3285377520] : Array Value).toList) := ⟨_, rfl⟩
          have H9 : Hid (w5.heap[wB.heap.size]? = some (.cells #[.int .u32 1732584193, .int .u32 4023233417, .int .u32 2562383102, .int .u32 271733878, .int .u32 3285377520] 75 (0, 0))) := hid (by rw [HW5.out]; exact setCells5 _ _ _ _ _ _ _ _ _ _ _ _ _ (heap_alloc_new wB _))
          have HX5 : Hid (Below wB.heap.size wB w5) := hid (by rw [HW5.out]; exact below_setCells (Nat.le_refl _) _ _ _ _ ((Below.refl _ _).alloc (Nat.le_refl _) _))
          have hz5 : wB.heap.size < w5.heap.size := by rw [HW5.out, size_setCells]; simp
          replace hown := hid hown
          replace hTl := hid hTl
          obtain ⟨NB, HNB⟩ : ∃ NB, Hid (NB = T / 64) := ⟨_, rfl⟩
          have hNB : Hid (T = 64 * NB) := hid (by have := HNB.out; omega)
          clear hj hk hlt
          go_wp2_with (refine wpList_store_mid rfl 75 _ _ rfl wB.heap.size 0 _ rfl rfl HTh.out Tryz.size75 (by simp [Value.oneCell']) ?_; rw [← HW5.out])
          go_loopg [7] NB (fun g i wr => ∃ (k : Nat) (s : S5), k ≤ NB ∧ g = NB - k ∧ i = .int .i64 (64 * k : Nat) ∧ Hid (s = ab ls k) ∧ Hid (wr.heap[wB.heap.size]? = some (.cells #[.int .u32 s.a, .int .u32 s.b, .int .u32 s.c, .int .u32 s.d, .int .u32 s.e] 75 (0, 0))) ∧ Hid (Below wB.heap.size wB wr) ∧ wB.heap.size < wr.heap.size)
          case atStart => exact ⟨0, init5, by omega, rfl, rfl, rfl, H9, HX5, hz5⟩
          case round =>
            clear H9 HX5 hz5
            obtain ⟨k, ⟨a0, b0, c0, d0, e0⟩, hk, hg, rfl, HSt, HR, HBr, hzr⟩ := hrel
            obtain ⟨p, HP⟩ : ∃ p, Hid (p = 64 * k) := ⟨_, rfl⟩
            rw [← HP.out]
            by_cases hlt : k < NB
            · have hpT : (p : Int) < T := by have := HP.out; have := hNB.out; omega
              have hp64 : p + 64 ≤ T := by have := HP.out; have := hNB.out; omega
              obtain ⟨q0, q1, q2, q3, q4⟩ := u5_cells HR.out
              obtain ⟨ck, HCK⟩ : ∃ ck, Hid (ck = (ls.drop (64 * k)).take 64) := ⟨_, rfl⟩
              have hckl : ck.length = 64 := by rw [HCK.out, List.length_take, List.length_drop, hTl.out]; have := HP.out; omega
              have hckb : IsB ck := by rw [HCK.out]; exact (hlsb.drop _).take _
              have hat : At wr gb p ck := fun i hi => by
                have e : ck.getD i 0 = ls.getD (p + i) 0 := by rw [HCK.out, List.getD_eq_getElem?_getD, List.getElem?_take, if_pos (by omega), List.getElem?_drop, ← List.getD_eq_getElem?_getD, HP.out]
                rw [e]; exact (HBr.out.cell (p := ⟨gb, p + i, none⟩) hgbl.2).trans (HAt.out _ (by omega))
              have hwp : IntKind.i64.wrap ((p : Int) + 64) = (p : Int) + 64 := by rw [IntKind.wrap_i64]; omega
              have hsl := fun w => slice22lh gb T cp p w hp64 hcpT
              obtain ⟨cpx, HCX⟩ : ∃ c, Hid (c = cp - p) := ⟨_, rfl⟩
              rw [← HCX.out] at hsl
              obtain ⟨s1, HS1⟩ : ∃ s1, Hid (s1 = comp ⟨a0, b0, c0, d0, e0⟩ ck) := ⟨_, rfl⟩
              have hblk := fun w1 (h : At w1 gb p ck) (h2 : gb < w1.heap.size) => block_any ⟨a0, b0, c0, d0, e0⟩ gb p cpx ck w1 (by rw [HSt.out]; exact ab_ok _ _) hckl hckb h h2
              rw [← HS1.out] at hblk
              obtain ⟨x0, x1, x2, x3, x4⟩ := s1
              have hblk' : ∀ w1, At w1 gb p ck → gb < w1.heap.size → Calls Tryz.prog 36 #[.agg #[.int .u32 a0, .int .u32 b0, .int .u32 c0, .int .u32 d0, .int .u32 e0], .slice (some ⟨gb, p, none⟩) 64 cpx] w1 fun e w' => e = .returned (.agg #[.int .u32 x0, .int .u32 x1, .int .u32 x2, .int .u32 x3, .int .u32 x4]) ∧ Below w1.heap.size w1 w' := hblk
              clear hblk
              have hgz : gb < wr.heap.size := by omega
              replace hckl := hid hckl
              go_wp2
              go_region_with (go_at_call 36; refine (hblk' _ (by exact hat) (by exact hgz)).mono ?_; rintro e w6 ⟨rfl, hb6⟩; have H6 := hid ((hb6.block wB.heap.size hzr).trans HR.out); obtain ⟨y0, y1, y2, y3, y4⟩ := u5_cells H6.out; have g0 := frozen_of_row w6 wB.heap.size 0 _ 75 H6.out; have g1 := frozen_of_row w6 wB.heap.size 1 _ 75 H6.out; have g2 := frozen_of_row w6 wB.heap.size 2 _ 75 H6.out; have g3 := frozen_of_row w6 wB.heap.size 3 _ 75 H6.out; have g4 := frozen_of_row w6 wB.heap.size 4 _ 75 H6.out; replace hb6 := hid hb6)
              have HF6 : Hid ((((((w6.setCell ⟨wB.heap.size, 0, none⟩ (.int .u32 x0)).setCell ⟨wB.heap.size, 1, none⟩ (.int .u32 x1)).setCell ⟨wB.heap.size, 2, none⟩ (.int .u32 x2)).setCell ⟨wB.heap.size, 3, none⟩ (.int .u32 x3)).setCell ⟨wB.heap.size, 4, none⟩ (.int .u32 x4)).heap[wB.heap.size]? = some (.cells #[.int .u32 x0, .int .u32 x1, .int .u32 x2, .int .u32 x3, .int .u32 x4] 75 (0, 0))) := setCells5 w6 wB.heap.size 75 _ _ _ _ _ _ _ _ _ _ H6.out
              have HG6 : Hid (Below wB.heap.size wB (((((w6.setCell ⟨wB.heap.size, 0, none⟩ (.int .u32 x0)).setCell ⟨wB.heap.size, 1, none⟩ (.int .u32 x1)).setCell ⟨wB.heap.size, 2, none⟩ (.int .u32 x2)).setCell ⟨wB.heap.size, 3, none⟩ (.int .u32 x3)).setCell ⟨wB.heap.size, 4, none⟩ (.int .u32 x4))) := below_setCells (Nat.le_refl _) [.int .u32 x0, .int .u32 x1, .int .u32 x2, .int .u32 x3, .int .u32 x4] 0 _ _ (HBr.out.trans (Below.mono (show Below wr.heap.size wr w6 from ⟨hb6.out.os, hb6.out.tape, hb6.out.output, hb6.out.size, hb6.out.block⟩) (by omega)))
              have hz6 : wB.heap.size < w6.heap.size := Nat.lt_of_lt_of_le hzr hb6.out.size
              clear y0 y1 y2 y3 y4 g0 g1 g2 g3 g4 q0 q1 q2 q3 q4 hsl hwp hblk' hat
              go_wp2
              go_roundg (NB - (k + 1))
              case measure => omega
              case rel => exact ⟨k + 1, ⟨x0, x1, x2, x3, x4⟩, by omega, rfl, by have := HP.out; go_num, hid (by rw [HS1.out, HSt.out, HCK.out]; rfl), HF6, HG6, by simpa [World.setCell] using hz6⟩
            · obtain rfl : k = NB := by omega
              have hpT : p = T := by have := HP.out; have := hNB.out; omega
              subst hpT
              obtain ⟨s5, HS5⟩ : ∃ s5 : S5, Hid (s5 = ⟨a0, b0, c0, d0, e0⟩) := ⟨_, rfl⟩
              have HSH : Hid (sha zs = outAt s5 20) := hid (by unfold sha; rw [HS5.out, HSt.out, ← HN.out, ← HE.out, hTl.out, ← HNB.out])
              have hok : S5.ok s5 := by rw [HS5.out, HSt.out]; exact ab_ok _ _
              obtain ⟨sl, HSL⟩ : ∃ sl, Hid (sl = s5.l) := ⟨_, rfl⟩
              have hsll : sl.length = 5 := by rw [HSL.out]; rfl
              have hslw : IsW sl := by rw [HSL.out]; exact l_isW' s5 hok
              have HH : Hid (wr.heap[wB.heap.size]? = some (.cells (row .u32 sl).toArray 75 (0, 0))) := hid (by rw [HSL.out, HS5.out]; exact HR.out)
              have HRr : Hid (wr.heap[w.heap.size]? = some (.cells (row .u8 z20).toArray 29 (0, 0))) := (HBr.out.block _ (by omega)).trans HRB.out
              have HBw : Hid (Below w.heap.size w wr) := HBB.out.trans (HBr.out.mono (by omega))
              obtain ⟨wC, rfl⟩ : ∃ wC, wC = wr := ⟨_, rfl⟩
              have HI3 : Hid ((wC.alloc (.cells zr 29)).heap[wC.heap.size]? = some (.cells (row .u8 (outAt s5 (4 * 0))).toArray 29 (0, 0))) := hid (by rw [outAt_zero, ← HZ.out]; exact heap_alloc_new wC _)
              have HR4 : Hid ((wC.alloc (.cells zr 29)).heap[w.heap.size]? = some (.cells (row .u8 z20).toArray 29 (0, 0))) := hid (by rw [Below.heap_alloc _ _ _ (by omega)]; exact HRr.out)
              have HH4 : Hid ((wC.alloc (.cells zr 29)).heap[wB.heap.size]? = some (.cells (row .u32 sl).toArray 75 (0, 0))) := hid (by rw [Below.heap_alloc _ _ _ (by omega)]; exact HH.out)
              have HB4 : Hid (Below w.heap.size w (wC.alloc (.cells zr 29))) := HBw.out.alloc (by omega) _
              have hwC : w.heap.size < wB.heap.size := by omega
              clear HR HRr HH HBw
              go_wp2
              go_loopg [9] 5 (fun g i wr => ∃ j : Nat, j ≤ 5 ∧ g = 5 - j ∧ i = .int .i64 j ∧ Hid (wr.heap[wC.heap.size]? = some (.cells (row .u8 (outAt s5 (4 * j))).toArray 29 (0, 0))) ∧ Hid (wr.heap[w.heap.size]? = some (.cells (row .u8 z20).toArray 29 (0, 0))) ∧ Hid (wr.heap[wB.heap.size]? = some (.cells (row .u32 sl).toArray 75 (0, 0))) ∧ Hid (Below w.heap.size w wr))
              case atStart => exact ⟨0, by omega, rfl, rfl, HI3, HR4, HH4, HB4⟩
              case round =>
                clear HI3 HR4 HH4 HB4
                obtain ⟨j, hj, hg2, rfl, HI, HR, HH, HBx⟩ := hrel
                by_cases hlt2 : j < 5
                · obtain ⟨x, HX⟩ : ∃ x, Hid (x = sl.getD j 0) := ⟨_, rfl⟩
                  have hx : U x := by rw [HX.out]; exact hslw.at j
                  obtain ⟨hx1, hx2⟩ := hx
                  obtain ⟨m, HM⟩ : ∃ m, Hid (m = 4 * j) := ⟨_, rfl⟩
                  have hm : (4 : Int) * j = (m : Int) := by have := HM.out; omega
                  have hm16 : m ≤ 16 := by have := HM.out; omega
                  rw [← HM.out] at HI
                  go_wp2
                  go_loopg [10] 4 (fun g i wr => ∃ c : Nat, c ≤ 4 ∧ g = 4 - c ∧ i = .int .i64 c ∧ Hid (wr.heap[wC.heap.size]? = some (.cells (row .u8 (outAt s5 (m + c))).toArray 29 (0, 0))) ∧ Hid (wr.heap[w.heap.size]? = some (.cells (row .u8 z20).toArray 29 (0, 0))) ∧ Hid (wr.heap[wB.heap.size]? = some (.cells (row .u32 sl).toArray 75 (0, 0))) ∧ Hid (Below w.heap.size w wr))
                  case atStart => exact ⟨0, by omega, rfl, rfl, HI, HR, HH, HBx⟩
                  case round =>
                    clear HI HR HH HBx
                    obtain ⟨c, hc4, hg3, rfl, HI, HR, HH, HBx⟩ := hrel
                    by_cases hlt3 : c < 4
                    · have cx : wr.cell? ⟨wB.heap.size, j, none⟩ = some (.int .u32 x) := by rw [HX.out]; exact row_cell HH.out j (by omega)
                      have d0 := row_cell HI.out (m + c) (by rw [outAt_len]; omega)
                      have f0 := frozen_of_row wr wC.heap.size (m + c) _ 29 HI.out
                      obtain ⟨sh, HSHF⟩ : ∃ sh : Nat, Hid (sh = 24 - 8 * c) := ⟨_, rfl⟩
                      have hsh : (24 : Int) - 8 * c = (sh : Int) := by have := HSHF.out; omega
                      have hsh2 : sh ≤ 24 := by have := HSHF.out; omega
                      have bi : (j : Int) < 5 := by omega
                      go_wp2
                      go_roundg (4 - (c + 1))
                      case measure => omega
                      case rel =>
                        refine ⟨c + 1, by omega, rfl, by go_num, hid ?_, hid ?_, hid ?_, HBx.out.setCell (by show w.heap.size ≤ wC.heap.size; omega) _⟩
                        · rw [heap_setCell_same wr _ _ _ _ _ HI.out, row_set, ← Nat.add_assoc, outAt_step s5 (m + c) (by omega), show (m + c) / 4 = j from by have := HM.out; omega, show (m + c) % 4 = c from by have := HM.out; omega, ← HSHF.out, ← HSL.out, ← HX.out]
                        · rw [Below.heap_setCell wr ⟨wC.heap.size, m + c, none⟩ _ w.heap.size (by show w.heap.size ≠ wC.heap.size; omega)]; exact HR.out
                        · rw [Below.heap_setCell wr ⟨wC.heap.size, m + c, none⟩ _ wB.heap.size (by show wB.heap.size ≠ wC.heap.size; omega)]; exact HH.out
                    · obtain rfl : c = 4 := by omega
                      go_wp2
                      go_roundg (5 - (j + 1))
                      case measure => omega
                      case rel => exact ⟨j + 1, by omega, rfl, by go_num, hid (by rw [show 4 * (j + 1) = m + 4 from by have := HM.out; omega]; exact HI.out), HR, HH, HBx⟩
                · obtain rfl : j = 5 := by omega
                  obtain ⟨fr, HFR⟩ : ∃ fr, Hid (fr = outAt s5 (4 * 5)) := ⟨_, rfl⟩
                  rw [← HFR.out] at HI
                  have hfl : fr.length = 20 := by rw [HFR.out]; exact outAt_len _ _
                  have HEf : Hid (fr = sha zs) := hid (by rw [HFR.out, HSH.out])
                  have hi24 : (Tryz.prog.info? 29).map (·.size) = some (row .u8 fr).length := by rw [row_len, hfl]; exact Tryz.size29
                  have T1 : Hid (wr.there w.heap.size 0 (row .u8 fr).toArray.size) := hid (by rw [row_size, hfl]; exact there_row HR.out rfl)
                  have T2 : Hid ((Tryz.prog.info? 29).map (·.size) = some (row .u8 fr).toArray.size) := hid (by rw [row_size, hfl]; exact Tryz.size29)
                  have T3 : Hid ((row .u8 fr).toArray.all (·.oneCell') = true) := all_oneCell_toArray (row_one _ _)
                  have T4 : Hid (wr.there w.heap.size 0 (row .u8 fr).length) := hid (by rw [row_len, hfl]; exact there_row HR.out rfl)
                  go_wp2_with (first | refine wpList_load_mid rfl 29 _ rfl wC.heap.size 0 rfl (row .u8 fr) _ (range_row HI.out) Tryz.underlying29 rfl hi24 ?_ | refine wpList_store_mid rfl 29 _ _ rfl w.heap.size 0 (row .u8 fr).toArray rfl rfl T1.out T2.out T3.out ?_)
                  exact bodyPost_ret (v := .agg (row .u8 fr).toArray) (results_mid Tryz.results17 _ _ w.heap.size _ _ rfl (World.rangeAt_setCells_same wr w.heap.size 0 _ T4.out) Tryz.underlying29 rfl hi24) rfl ⟨by rw [HEf.out], below_setCells (Nat.le_refl _) _ _ _ _ HBx.out⟩
end Go.Proofs.YtcicoeneemnbiaaGreatDoor
namespace Go.Proofs.YtcicoeneemnbiaaGreatDoor
open Go.RowKit
set_option maxHeartbeats 400000 in
theorem same_true (b off cap b' off' cap' : Nat) (zs : List Int) (w : World) (hl : zs.length ≤ 400000) (hc : At w b off zs) (hc' : At w b' off' zs) :
    Calls Tryz.prog 7 #[.slice (some ⟨b, off, none⟩) zs.length cap, .slice (some ⟨b', off', none⟩) zs.length cap'] w fun e w' => e = .returned (.bool true) ∧ ∃ n, w' = w.drewN n := by
  go_enter Tryz.func7, Tryz.ntmps7
  go_wp2
  go_loopw [5] (fun i wr => ∃ k n : Nat, k ≤ zs.length ∧ i = .int .i64 k ∧ wr = w.drewN n) (fun i _ => zs.length - (intOf i).toNat)
  case atStart => exact ⟨0, 0, Nat.zero_le _, rfl, rfl⟩
  case round =>
    obtain ⟨k, n, hk, rfl, rfl⟩ := hrel
    by_cases hlt : k < zs.length
    · have hcell := hc k hlt
      have hcell' := hc' k hlt
      go_wp2
      go_quiet (fail)
      go_wp2
      go_roundw
      case rel => exact ⟨k + 1, _, by omega, by go_num, rfl⟩
      case measure => simp [intOf]; omega
    · go_wp2
      go_ret
      exact ⟨rfl, n, rfl⟩
set_option maxHeartbeats 400000 in
theorem same_none (a a' : Option Addr) (cap cap' : Nat) (w : World) :
    Calls Tryz.prog 7 #[.slice a 0 cap, .slice a' 0 cap'] w fun e w' => e = .returned (.bool true) ∧ ∃ n, w' = w.drewN n := by
  go_enter Tryz.func7, Tryz.ntmps7
  go_wp2
  go_loop [5] (fun i => i = .int .i64 0) (fun _ => 0)
  case atStart => rfl
  case round =>
    obtain rfl := hrel
    go_wp2
    go_ret
    exact ⟨rfl, 0, rfl⟩
end Go.Proofs.YtcicoeneemnbiaaGreatDoor
namespace Go.Proofs.YtcicoeneemnbiaaGreatDoor
open Go.RowKit
structure Room (w : World) (g : Nat) (zs : List Int) : Prop where
  lt : g < w.heap.size
  cell : ∀ i, i < zs.length → w.cell? ⟨g, i, none⟩ = some (.int .u8 (zs.getD i 0))
  c71 : w.cell? ⟨g, zs.length, none⟩ = some (.int .u8 71)
  c72 : w.cell? ⟨g, zs.length + 1, none⟩ = some (.int .u8 72)
  fz : ∀ i, w.frozen? ⟨g, i, none⟩ = false
theorem copy_in (w1 : World) (g n2 : Nat) (a : Option Addr) (cap : Nat) (zs : List Int) (hn : zs.length ≤ n2) (hcell : ∀ j, j < n2 → w1.cell? ⟨g, j, none⟩ = some (.int .u8 0)) (hfz : ∀ j, w1.frozen? ⟨g, j, none⟩ = false)
    (hc : 0 < zs.length → ∃ b off, a = some ⟨b, off, none⟩ ∧ At w1 b off zs) :
    ∃ w2, Sem.run Tryz.prog (Builtin.copy_ #[23, 23] 3 #[.slice (some ⟨g, 0, none⟩) n2 n2, .slice a zs.length cap]) w1 = .ok (.int .i64 zs.length) w2 ∧ Below g w1 w2 ∧ w2.heap.size = w1.heap.size ∧
      (∀ j, j < zs.length → w2.cell? ⟨g, j, none⟩ = some (.int .u8 (zs.getD j 0))) ∧ (∀ j, zs.length ≤ j → j < n2 → w2.cell? ⟨g, j, none⟩ = some (.int .u8 0)) ∧ ∀ j, w2.frozen? ⟨g, j, none⟩ = false := by
  by_cases h0 : zs.length = 0
  · refine ⟨w1, ?_, Below.refl _ _, rfl, fun j hj => by omega, fun j _ hj => hcell j hj, hfz⟩
    rw [run_copy_none w1 23 23 3 5 _ a n2 n2 zs.length cap Tryz.underlying23 Tryz.size5 (by rw [h0]; exact Nat.zero_min _), h0]; rfl
  · obtain ⟨b, off, rfl, hat⟩ := hc (by omega)
    have hlen : (zs.map (Value.int .u8)).length = zs.length := by simp
    have hr := run_copy_cells (P := Tryz.prog) w1 23 23 3 5 g 0 n2 n2 ⟨b, off, none⟩ zs.length cap (zs.map (Value.int .u8)) Tryz.underlying23 Tryz.size5
      (by rw [hlen]; exact (Nat.min_eq_left hn).symm)
      (fun j v hj => by
        rw [List.getElem?_map] at hj
        cases hq : zs[j]? with
        | none => simp [hq] at hj
        | some q =>
          simp [hq] at hj
          subst hj
          have hlt : j < zs.length := by rcases Nat.lt_or_ge j zs.length with h | h; exact h; rw [List.getElem?_eq_none h] at hq; cases hq
          have := hat j hlt
          rw [addr_add]
          simpa [hq] using this)
      (fun j hj => by rw [hlen] at hj; rw [Nat.zero_add, hcell j (by omega)]; rfl) (fun j _ => hfz _) (ints_oneCell _ _)
    have hin := World.cell?_setCells_in g (zs.map (Value.int .u8)) 0 w1 (fun j hj => by rw [hlen] at hj; rw [Nat.zero_add, hcell j (by omega)]; rfl)
    refine ⟨_, by rw [hr, hlen]; rfl, below_setCells (Nat.le_refl _) _ _ _ _ (Below.refl _ _), size_setCells _ _ _ _, fun j hj => ?_, fun j h1 h2 => ?_, fun j => ?_⟩
    · have := hin j (by omega)
      rw [Nat.zero_add] at this
      rw [this]
      simp [hj]
    · rw [World.cell?_setCells_out g _ 0 w1 _ (fun _ _ => Or.inr (by rw [hlen]; simpa using h1))]
      exact hcell j h2
    · rw [World.frozen?_setCells]; exact hfz j
theorem room_of {w2 : World} {g : Nat} {zs : List Int} (hs : g < w2.heap.size) (hin : ∀ j, j < zs.length → w2.cell? ⟨g, j, none⟩ = some (.int .u8 (zs.getD j 0))) (k1 : w2.cell? ⟨g, zs.length, none⟩ = some (.int .u8 0))
    (k2 : w2.cell? ⟨g, zs.length + 1, none⟩ = some (.int .u8 0)) (hfz : ∀ j, w2.frozen? ⟨g, j, none⟩ = false) :
    Room ((w2.setCell ⟨g, zs.length, none⟩ (.int .u8 71)).setCell ⟨g, zs.length + 1, none⟩ (.int .u8 72)) g zs where
  lt := by simpa [World.setCell] using hs
  cell i hi := by
    rw [World.cell?_setCell_other _ _ _ _ (by intro h; simp only [Addr.mk.injEq] at h; omega), World.cell?_setCell_other _ _ _ _ (by intro h; simp only [Addr.mk.injEq] at h; omega)]; exact hin i hi
  c71 := by rw [World.cell?_setCell_other _ _ _ _ (by simp)]; exact World.cell?_setCell_same _ _ _ k1
  c72 := World.cell?_setCell_same (u := .int .u8 0) _ _ _ (by rw [World.cell?_setCell_other _ _ _ _ (by simp)]; exact k2)
  fz i := by rw [World.frozen?_setCell, World.frozen?_setCell]; exact hfz i
set_option maxRecDepth 10000 in
set_option maxHeartbeats 400000 in
theorem roomy_any (a : Option Addr) (cap : Nat) (zs : List Int) (w : World) (hl : zs.length ≤ 300000) (hc : 0 < zs.length → ∃ b off, a = some ⟨b, off, none⟩ ∧ b < w.heap.size ∧ At w b off zs) :
    Calls Tryz.prog 19 #[.slice a zs.length cap] w fun e w' => e = .returned (.slice (some ⟨w.heap.size, 0, none⟩) zs.length (zs.length + 2)) ∧ Below w.heap.size w w' ∧ Room w' w.heap.size zs := by
  obtain ⟨i5, hi, hz0, hz1, hz2⟩ := info_parts Tryz.info5
  go_enter Tryz.func19, Tryz.ntmps19
  go_wp2_with (at_make; refine wpList_make_full _ rfl _ _ 23 rfl w.heap.size 5 i5 (.int .u8 0) 1 Tryz.underlying23 hi hz0 hz1 _ _ _ _ (zs.length + 2) rfl rfl ?c1 ?c2 ?c3 ?c4 ?c5 ?_)
  case c1 => omega
  case c2 => omega
  case c3 => rw [hz2]; omega
  case c4 => unfold maxLen; omega
  case c5 => exact Nat.le_refl _
  · intro w1 hown hgrow
    have hb1 : Below w.heap.size w w1 := (Below.refl _ _).grown hgrow (Nat.le_refl _) (fun k h => by cases h)
    have hs1 : w.heap.size < w1.heap.size := (hown.lt _ rfl).2
    obtain ⟨w2, hrun, hb2, hs2, hin, hout, hfz⟩ := copy_in w1 w.heap.size (zs.length + 2) a cap zs (by omega)
      (fun j hj => by
        rw [hown.cellAt j (by omega), toList_madeCells_one, List.getElem?_replicate, if_pos (by omega)]) hown.frozenAt
      (fun h => by
        obtain ⟨b, off, ha, hb, hat⟩ := hc h
        exact ⟨b, off, ha, fun j hj => (hb1.cell (p := ⟨b, off + j, none⟩) hb).trans (hat j hj)⟩)
    have k1 := hout zs.length (by omega) (by omega)
    have k2 := hout (zs.length + 1) (by omega) (by omega)
    have f1 := hfz zs.length
    have f2 := hfz (zs.length + 1)
    have HB : Hid (Below w.heap.size w w2) := hb1.trans hb2
    clear hown hgrow hb1 hc hout hb2
    go_wp2
    go_ret
    exact ⟨rfl, (HB.out.setCell (Nat.le_refl _) _).setCell (Nat.le_refl _) _, room_of (by omega) hin k1 k2 hfz⟩
end Go.Proofs.YtcicoeneemnbiaaGreatDoor
namespace Go.Proofs.YtcicoeneemnbiaaGreatDoor
open Go.RowKit
theorem same_any (a a' : Option Addr) (cap cap' : Nat) (zs : List Int) (w : World) (hl : zs.length ≤ 400000) (hc : 0 < zs.length → ∃ b off, a = some ⟨b, off, none⟩ ∧ At w b off zs) (hc' : 0 < zs.length → ∃ b off, a' = some ⟨b, off, none⟩ ∧ At w b off zs) :
    Calls Tryz.prog 7 #[.slice a zs.length cap, .slice a' zs.length cap'] w fun e w' => e = .returned (.bool true) ∧ ∃ n, w' = w.drewN n := by
  by_cases h0 : zs.length = 0
  · rw [h0]; exact same_none a a' cap cap' w
  · obtain ⟨b, off, rfl, h⟩ := hc (by omega)
    obtain ⟨b', off', rfl, h'⟩ := hc' (by omega)
    exact same_true b off cap b' off' cap' zs w hl h h'
def Own (w : World) (g n : Nat) : Prop := ∀ i, i < n → ∃ v : Int, 0 ≤ v ∧ v ≤ 255 ∧ w.cell? ⟨g, i, none⟩ = some (.int .u8 v)
theorem Own.set {w : World} {g n : Nat} (h : Own w g n) (k : Nat) (v : Int) (h1 : 0 ≤ v) (h2 : v ≤ 255) : Own (w.setCell ⟨g, k, none⟩ (.int .u8 v)) g n := by
  intro i hi
  by_cases hk : i = k
  · subst hk
    obtain ⟨u, _, _, hu⟩ := h i hi
    exact ⟨v, h1, h2, World.cell?_setCell_same _ _ _ hu⟩
  · obtain ⟨u, a, b, hu⟩ := h i hi
    exact ⟨u, a, b, by rw [World.cell?_setCell_other _ _ _ _ (by intro h; simp only [Addr.mk.injEq] at h; omega)]; exact hu⟩
theorem below_drewH {B : Nat} {w0 w : World} (h : Below B w0 w) (n : Nat) : Below B w0 (w.drewN n) := h.trans ⟨rfl, rfl, rfl, Nat.le_refl _, fun _ _ => rfl⟩
theorem IsB.get {zs : List Int} (h : IsB zs) (k : Nat) : 0 ≤ zs[k]?.getD 0 ∧ zs[k]?.getD 0 ≤ 255 := by
  have := h.at k
  rw [List.getD_eq_getElem?_getD] at this
  omega
theorem Room.own {w : World} {g : Nat} {zs : List Int} (h : Room w g zs) (hz : IsB zs) : Own w g (zs.length + 2) := by
  intro i hi
  by_cases h1 : i < zs.length
  · exact ⟨_, (hz.get i).1, (hz.get i).2, by simpa using h.cell i h1⟩
  · by_cases h2 : i = zs.length
    · subst h2; exact ⟨71, by omega, by omega, h.c71⟩
    · obtain rfl : i = zs.length + 1 := by omega
      exact ⟨72, by omega, by omega, h.c72⟩
theorem xor85 (v : Int) (h1 : 0 ≤ v) (h2 : v ≤ 255) : ∃ v' : Int, bits .xor .u8 v 85 = v' ∧ 0 ≤ v' ∧ v' ≤ 255 := by
  refine ⟨_, rfl, ?_⟩
  rw [u8_xor _ _ h1 (by omega) (by omega) (by omega)]
  have := Nat.xor_lt_two_pow (n := 8) (x := v.toNat) (y := (85 : Int).toNat) (by omega) (by decide)
  omega
end Go.Proofs.YtcicoeneemnbiaaGreatDoor
namespace Go.Proofs.YtcicoeneemnbiaaGreatDoor
open Go.RowKit
set_option linter.unusedVariables false
theorem eqItems_same {P : Program} (d : Nat) (e : TypeId) (he : P.plainKey e = true) (hu : P.underlying e = some (.int .u8)) (xs : List Int) : ∀ (is : List Nat) (w : World), (∀ j ∈ is, j < xs.length) → (Op.eqItems (d + 1) e 1 (row .u8 xs).toArray (row .u8 xs).toArray is).run P w = .ok true w
  | [], w, _ => by simp [Op.eqItems]
  | j :: is, w, h => by
    have hj := h j (by simp)
    have hp : (part e (row .u8 xs).toArray j).run P w = .ok (.int .u8 (xs.getD j 0)) w := run_part_plain w he (by simpa using row_at .u8 xs j hj)
    simp only [Op.eqItems, Sem.run_bind, Nat.mul_one, hp, Result.andThen_ok]
    simp [go_sem, hu, eqItems_same d e he hu xs is w (fun k hk => h k (by simp [hk]))]
theorem cells5 : Tryz.prog.cellsOf 5 = 1 := by kernel_rfl
theorem plain5 : Tryz.prog.plainKey 5 = true := by kernel_rfl
theorem same25 (xs : List Int) (h : xs.length = 20) (w : World) : (Op.equalIn 10000 30 (.agg (row .u8 xs).toArray) (.agg (row .u8 xs).toArray)).run Tryz.prog w = .ok true w := by
  obtain ⟨i5, hi, -⟩ := info_parts Tryz.info5
  rw [show (10000 : Nat) = 9999 + 1 from rfl, run_equalIn_array w 9999 _ _ Tryz.underlying30 hi, cells5]
  exact eqItems_same 9998 5 plain5 Tryz.underlying5 xs _ w (fun j hj => by rw [h]; simpa using hj)
theorem grown_drewN (w : World) (n : Nat) (r : Option Nat) : w.grownBy (w.drewN n) r := ⟨rfl, rfl, rfl, Nat.le_refl _, fun _ _ _ => rfl⟩
set_option maxHeartbeats 400000 in
theorem still_keep (a : Option Addr) (cap g : Nat) (zs : List Int) (w : World) (hl : zs.length ≤ 300000) (hz : IsB zs) (hr : Room w g zs) (hc : 0 < zs.length → ∃ b off, a = some ⟨b, off, none⟩ ∧ b < g ∧ At w b off zs) :
    Calls Tryz.prog 21 #[.slice (some ⟨g, 0, none⟩) zs.length (zs.length + 2), .slice a zs.length cap] w fun e w' => e = .returned (.bool true) ∧ w.grownBy w' (some g) := by
  have c71 := hr.c71
  have c72 := hr.c72
  go_enter Tryz.func21, Tryz.ntmps21
  go_wp2_with (go_at_call 7; refine (same_any _ _ _ _ zs _ (by omega) (fun _ => ⟨g, 0, rfl, fun i hi => by rw [Nat.zero_add]; exact hr.cell i hi⟩) (fun h => by obtain ⟨b, off, h1, h2, h3⟩ := hc h; exact ⟨b, off, h1, h3⟩)).mono ?_; rintro e w1 ⟨rfl, nq, rfl⟩)
  go_loopw [8] (fun i wr => ∃ k : Nat, k ≤ zs.length + 2 ∧ i = .int .i64 k ∧ Own wr g (zs.length + 2) ∧ (∀ i, wr.frozen? ⟨g, i, none⟩ = false) ∧ w.grownBy wr (some g)) (fun i _ => zs.length + 2 - (intOf i).toNat)
  case atStart => exact ⟨0, Nat.zero_le _, rfl, hr.own hz, hr.fz, grown_drewN _ _ _⟩
  case round =>
    obtain ⟨k, hk, rfl, hown, hfz, hbel⟩ := hrel
    clear c71 c72
    by_cases hlt : k < zs.length + 2
    · obtain ⟨v, hv1, hv2, hcell⟩ := hown k hlt
      obtain ⟨v', hx, hv3, hv4⟩ := xor85 v hv1 hv2
      have hf := hfz k
      go_wp2
      go_roundw
      case rel => exact ⟨k + 1, by omega, by go_num, hown.set k v' hv3 hv4, fun i => by rw [World.frozen?_setCell]; exact hfz i, grown_setCell _ hbel⟩
      case measure => simp [intOf]; omega
    · go_wp2
      go_ret
      exact ⟨rfl, hbel⟩
end Go.Proofs.YtcicoeneemnbiaaGreatDoor
namespace Go.Proofs
open Go.Shelf
def Tryz.lays119_ren : Go.Shelf.Ren := ⟨fun | 119 => 98 | n => n, fun | 21 => 21 | 4 => 4 | n => n, fun | n => n⟩
theorem Tryz.lays119 : Go.Proofs.Lays.n119 Tryz.prog Tryz.lays119_ren := {
  mixed := by kernel_rfl
  f119 := Tryz.func98.trans (congrArg some (by kernel_rfl))
  t4 := Tryz.underlying4
  a4 := Tryz.isAgg4
  z4 := Tryz.sizeOf4
  v4 := Tryz.zeroValue4
  t21 := Tryz.underlying21
  a21 := Tryz.isAgg21
  z21 := Tryz.sizeOf21
  v21 := Tryz.zeroValue21 }
def Tryz.lays137_ren : Go.Shelf.Ren := ⟨fun | 137 => 97 | 217 => 102 | 266 => 103 | n => n, fun | 9 => 9 | 5 => 5 | 3 => 3 | n => n, fun | n => n⟩
theorem Tryz.lays137 : Go.Proofs.Lays.n137 Tryz.prog Tryz.lays137_ren := {
  mixed := by kernel_rfl
  f137 := Tryz.func97.trans (congrArg some (by kernel_rfl))
  f217 := Tryz.func102.trans (congrArg some (by kernel_rfl))
  f266 := Tryz.func103.trans (congrArg some (by kernel_rfl))
  t3 := Tryz.underlying3
  a3 := Tryz.isAgg3
  z3 := Tryz.sizeOf3
  v3 := Tryz.zeroValue3
  t5 := Tryz.underlying5
  a5 := Tryz.isAgg5
  z5 := Tryz.sizeOf5
  v5 := Tryz.zeroValue5
  t9 := Tryz.underlying9
  a9 := Tryz.isAgg9
  z9 := Tryz.sizeOf9
  v9 := Tryz.zeroValue9 }
def Tryz.lays152_ren : Go.Shelf.Ren := ⟨fun | 152 => 88 | 137 => 97 | 119 => 98 | 224 => 99 | 225 => 100 | 217 => 102 | 266 => 103 | n => n, fun | 9 => 9 | 21 => 21 | 3 => 3 | 4 => 4 | 5 => 5 | 0 => 0 | 46 => 68 | n => n, fun | n => n⟩
theorem Tryz.lays152 : Go.Proofs.Lays.n152 Tryz.prog Tryz.lays152_ren := {
  mixed := by kernel_rfl
  f119 := Tryz.func98.trans (congrArg some (by kernel_rfl))
  f137 := Tryz.func97.trans (congrArg some (by kernel_rfl))
  f152 := Tryz.func88.trans (congrArg some (by kernel_rfl))
  f217 := Tryz.func102.trans (congrArg some (by kernel_rfl))
  f224 := Tryz.func99.trans (congrArg some (by kernel_rfl))
  f225 := Tryz.func100.trans (congrArg some (by kernel_rfl))
  f266 := Tryz.func103.trans (congrArg some (by kernel_rfl))
  t0 := Tryz.underlying0
  a0 := Tryz.isAgg0
  z0 := Tryz.sizeOf0
  v0 := Tryz.zeroValue0
  t3 := Tryz.underlying3
  a3 := Tryz.isAgg3
  z3 := Tryz.sizeOf3
  v3 := Tryz.zeroValue3
  t4 := Tryz.underlying4
  a4 := Tryz.isAgg4
  z4 := Tryz.sizeOf4
  v4 := Tryz.zeroValue4
  t5 := Tryz.underlying5
  a5 := Tryz.isAgg5
  z5 := Tryz.sizeOf5
  v5 := Tryz.zeroValue5
  t9 := Tryz.underlying9
  a9 := Tryz.isAgg9
  z9 := Tryz.sizeOf9
  v9 := Tryz.zeroValue9
  t21 := Tryz.underlying21
  a21 := Tryz.isAgg21
  z21 := Tryz.sizeOf21
  v21 := Tryz.zeroValue21
  t46 := Tryz.underlying68
  a46 := Tryz.isAgg68
  z46 := Tryz.sizeOf68
  v46 := Tryz.zeroValue68 }
def Tryz.lays153_ren : Go.Shelf.Ren := ⟨fun | 153 => 73 | 152 => 88 | 226 => 89 | 227 => 90 | 228 => 91 | 137 => 97 | 119 => 98 | 224 => 99 | 225 => 100 | 217 => 102 | 266 => 103 | n => n, fun | 9 => 9 | 3 => 3 | 4 => 4 | 5 => 5 | 21 => 21 | 117 => 155 | 116 => 154 | 0 => 0 | 46 => 68 | 124 => 167 | n => n, fun | n => n⟩
theorem Tryz.lays153 : Go.Proofs.Lays.n153 Tryz.prog Tryz.lays153_ren := {
  mixed := by kernel_rfl
  f119 := Tryz.func98.trans (congrArg some (by kernel_rfl))
  f137 := Tryz.func97.trans (congrArg some (by kernel_rfl))
  f152 := Tryz.func88.trans (congrArg some (by kernel_rfl))
  f153 := Tryz.func73.trans (congrArg some (by kernel_rfl))
  f217 := Tryz.func102.trans (congrArg some (by kernel_rfl))
  f224 := Tryz.func99.trans (congrArg some (by kernel_rfl))
  f225 := Tryz.func100.trans (congrArg some (by kernel_rfl))
  f226 := Tryz.func89.trans (congrArg some (by kernel_rfl))
  f227 := Tryz.func90.trans (congrArg some (by kernel_rfl))
  f228 := Tryz.func91.trans (congrArg some (by kernel_rfl))
  f266 := Tryz.func103.trans (congrArg some (by kernel_rfl))
  t0 := Tryz.underlying0
  a0 := Tryz.isAgg0
  z0 := Tryz.sizeOf0
  v0 := Tryz.zeroValue0
  t3 := Tryz.underlying3
  a3 := Tryz.isAgg3
  z3 := Tryz.sizeOf3
  v3 := Tryz.zeroValue3
  t4 := Tryz.underlying4
  a4 := Tryz.isAgg4
  z4 := Tryz.sizeOf4
  v4 := Tryz.zeroValue4
  t5 := Tryz.underlying5
  a5 := Tryz.isAgg5
  z5 := Tryz.sizeOf5
  v5 := Tryz.zeroValue5
  t9 := Tryz.underlying9
  a9 := Tryz.isAgg9
  z9 := Tryz.sizeOf9
  v9 := Tryz.zeroValue9
  t21 := Tryz.underlying21
  a21 := Tryz.isAgg21
  z21 := Tryz.sizeOf21
  v21 := Tryz.zeroValue21
  t46 := Tryz.underlying68
  a46 := Tryz.isAgg68
  z46 := Tryz.sizeOf68
  v46 := Tryz.zeroValue68
  t116 := Tryz.underlying154
  a116 := Tryz.isAgg154
  z116 := Tryz.sizeOf154
  t117 := Tryz.underlying155
  a117 := Tryz.isAgg155
  z117 := Tryz.sizeOf155
  v117 := Tryz.zeroValue155
  t124 := Tryz.underlying167
  a124 := Tryz.isAgg167
  z124 := Tryz.sizeOf167
  v124 := Tryz.zeroValue167 }
end Go.Proofs
