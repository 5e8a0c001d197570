import Derived.Test.YtbpdielmdhhdfaaGreatDoorMu08
import Derived.Test.YtbpdielmdhhdfaaGreatDoorMu14
import Derived.Maps.AppendAt
import Derived.Test.YtbpdielmdhhdfaaGreatDoorMu19
import Derived.Sort.Statements
/- 'Sum' of the document. -/
namespace Go.Proofs.YtbpdielmdhhdfaaGreatDoor
open Go.RowKit
set_option linter.unusedVariables false

theorem owns_shape {w : World} {B : Nat} {e : TypeId} {s : Nat} {v : Value} {n : Nat} {xs : List Value} (h : w.ownsRow B e s v n xs) : ∃ a cp, v = .slice a n cp := by
  obtain ⟨_, ⟨rfl, rfl⟩ | ⟨g, cap, cur, rfl, _⟩⟩ := h
  · exact ⟨none, 0, rfl⟩
  · exact ⟨_, cap, rfl⟩

/-- 'append' to what was put out, of any number of bytes (none, too): at a step of a region that draws. -/
theorem step_append_at {P : Program} (w : World) {ops : Array Oper} {o : Oper} {a : Act} {K : Act → World → Prop} {Q : Exit → Act → World → Prop} {E : Prop} (hgd : o.guard = none) (s x : Operand) (t : TypeId)
    (ho : o.op = .call { callee := .builtin .append, args := #[s, x], argTypes := #[t, t] })
    (base : Nat) (e : TypeId) (i : TypeInfo) (z : Value) (size bytes : Nat) (ht : P.underlying t = some (.slice e)) (hi : P.info? e = some i) (hz : i.zero = some z)
    (hsize : i.size = size) (hby : i.bytes = bytes) (hzs : z.cells.size = size) (hsz : 0 < size)
    (v : Value) (n : Nat) (xs : List Value) (hs : a.eval s = v) (hown : w.ownsRow base e size v n xs)
    (ad : Addr) (m c : Nat) (news : List Value) (hx : a.eval x = .slice (some ad) m c) (hl : news.length = m * size) (hnews : ∀ j u, news[j]? = some u → w.cell? (ad.add j) = some u) (h1 : ∀ u ∈ news, u.oneCell' = true)
    (h63 : n + m ≤ maxLen) (hbytes : (n + m) * bytes ≤ 140737488355328) (hbase : base ≤ w.heap.size) (H : Nat) (hH : w.heap.size = H)
    (h : ∀ (ao : Option Addr) (cap : Nat) (w' : World), w'.ownsRow base e size (.slice ao (n + m : Nat) cap) (n + m) (xs ++ news) → w.grownBy w' v.ownBlock → ((Value.slice ao (n + m : Nat) cap).ownBlock = v.ownBlock ∨ (Value.slice ao (n + m : Nat) cap).ownBlock = some H) → K (a.put o.dst (.slice ao (n + m : Nat) cap)) w') :
    if Region.wanted o (yielded ops a.tmps) = true then Oper.wp P o a w K Q else E := by
  have hw : Region.wanted o (yielded ops a.tmps) = true := by simp [Region.wanted, hgd]
  rw [if_pos hw]
  obtain ⟨v', w', hr, h2, h3, _, h5⟩ := run_append_own_at (P := P) w base t o.type e i z size bytes ht hi hz hsize hby hzs hsz v n xs hown ad m c news hl hnews h1 h63 hbytes hbase
  obtain ⟨ao, cap, rfl⟩ := owns_shape h2
  unfold Oper.wp execOp
  simp only [ho, resolve, invoke, builtin, Sem.run_bind, Sem.run_pure, Result.andThen_ok, List.map_toArray, List.map_cons, List.map_nil, hs, hx, hr]
  exact h ao cap w' h2 h3 (hH ▸ h5)

theorem wpList_append_at {P : Program} (w : World) {ops : Array Oper} {rest : List Oper} {o : Oper} {a : Act} {Q : Exit → Act → World → Prop} (hgd : o.guard = none) (s x : Operand) (t : TypeId)
    (ho : o.op = .call { callee := .builtin .append, args := #[s, x], argTypes := #[t, t] })
    (base : Nat) (e : TypeId) (i : TypeInfo) (z : Value) (size bytes : Nat) (ht : P.underlying t = some (.slice e)) (hi : P.info? e = some i) (hz : i.zero = some z)
    (hsize : i.size = size) (hby : i.bytes = bytes) (hzs : z.cells.size = size) (hsz : 0 < size)
    (v : Value) (n : Nat) (xs : List Value) (hs : a.eval s = v) (hown : w.ownsRow base e size v n xs)
    (ad : Addr) (m c : Nat) (news : List Value) (hx : a.eval x = .slice (some ad) m c) (hl : news.length = m * size) (hnews : ∀ j u, news[j]? = some u → w.cell? (ad.add j) = some u) (h1 : ∀ u ∈ news, u.oneCell' = true)
    (h63 : n + m ≤ maxLen) (hbytes : (n + m) * bytes ≤ 140737488355328) (hbase : base ≤ w.heap.size) (H : Nat) (hH : w.heap.size = H)
    (h : ∀ (ao : Option Addr) (cap : Nat) (w' : World), w'.ownsRow base e size (.slice ao (n + m : Nat) cap) (n + m) (xs ++ news) → w.grownBy w' v.ownBlock → ((Value.slice ao (n + m : Nat) cap).ownBlock = v.ownBlock ∨ (Value.slice ao (n + m : Nat) cap).ownBlock = some H) → wpList P ops Q rest (a.put o.dst (.slice ao (n + m : Nat) cap)) w') :
    wpList P ops Q (o :: rest) a w :=
  wpList_plain hgd fun K hK => by
    have := step_append_at (P := P) w (ops := ops) (o := o) (a := a) (K := K) (Q := Q) (E := False) hgd s x t ho base e i z size bytes ht hi hz hsize hby hzs hsz v n xs hs hown ad m c news hx hl hnews h1 h63 hbytes hbase H hH (fun ao cap w' h2 h3 h4 => hK _ _ (h ao cap w' h2 h3 h4))
    rwa [if_pos (by simp [Region.wanted, hgd])] at this


theorem wpList_append_run {P : Program} {w : World} {ops : Array Oper} {rest : List Oper} {o : Oper} {a : Act} {Q : Exit → Act → World → Prop} (hgd : o.guard = none) (s x : Operand) (t : TypeId)
    (ho : o.op = .call { callee := .builtin .append, args := #[s, x], argTypes := #[t, t] }) (sv xv v : Value) (w2 : World) (hs : a.eval s = sv) (hx : a.eval x = xv) (hrun : (Builtin.append_ #[t, t] o.type #[sv, xv]).run P w = .ok v w2) (h : wpList P ops Q rest (a.put o.dst v) w2) :
    wpList P ops Q (o :: rest) a w :=
  wpList_plain hgd fun K hK => by
    unfold Oper.wp execOp
    simp only [ho, resolve, invoke, builtin, Sem.run_bind, Sem.run_pure, Result.andThen_ok, List.map_toArray, List.map_cons, List.map_nil, hs, hx, hrun]
    exact hK _ _ h
theorem append_nil (cap : Nat) (w : World) : (Builtin.append_ #[23, 23] 23 #[.slice none 0 0, .slice none 0 cap]).run Tryz.prog w = .ok (.slice none 0 0) w := by kernel_rfl
theorem append_first (a : Option Addr) (cap : Nat) (zs : List Int) (w : World) (B : Nat) (hB : B ≤ w.heap.size) (hl : zs.length ≤ 300000) (hc : 0 < zs.length → ∃ b off, a = some ⟨b, off, none⟩ ∧ At w b off zs) :
    ∃ w1 ao cp, (Builtin.append_ #[23, 23] 23 #[.slice none 0 0, .slice a zs.length cap]).run Tryz.prog w = .ok (.slice ao zs.length cp) w1 ∧ w1.ownsRow B 5 1 (.slice ao zs.length cp) zs.length (row .u8 zs) ∧ w.grownBy w1 none := by
  obtain ⟨i5, hi, hz0, hz1, hz2⟩ := info_parts Tryz.info5
  cases a with
  | none =>
    have h0 : zs.length = 0 := by
      rcases Nat.eq_zero_or_pos zs.length with h | h
      · exact h
      · obtain ⟨b, off, h1, -⟩ := hc h; cases h1
    obtain rfl : zs = [] := List.eq_nil_of_length_eq_zero h0
    exact ⟨w, none, 0, append_nil cap w, World.ownsRow_nil w B 5 1, World.grownBy.refl _ _⟩
  | some ad =>
    obtain ⟨v', w', hr, h2, h3, -, -⟩ := run_append_own_at (P := Tryz.prog) w B 23 23 5 i5 (.int .u8 0) 1 1 Tryz.underlying23 hi hz0 hz1 hz2 rfl (by omega) (.slice none 0 0) 0 [] (World.ownsRow_nil w B 5 1) ad zs.length cap (row .u8 zs) (by rw [row_len]; omega)
      (fun j u hj => by
        have hjm : j < zs.length := by rcases Nat.lt_or_ge j zs.length with h | h; exact h; rw [List.getElem?_eq_none (by rw [row_len]; exact h)] at hj; cases hj
        obtain ⟨b, off, h1, hat⟩ := hc (by omega)
        cases h1
        rw [row_at .u8 zs j hjm] at hj
        cases hj
        rw [addr_add]; exact hat j hjm) (row_one _ _) (by unfold maxLen; omega) (by omega) hB
    rw [Nat.zero_add, List.nil_append] at h2
    obtain ⟨ao, cp, rfl⟩ := owns_shape h2
    exact ⟨w', ao, cp, hr, h2, h3⟩
theorem slice22lh (b L cp m : Nat) (w : World) (h1 : m + 64 ≤ L) (h2 : L ≤ cp) : (Instr.slice 23 (.slice (some ⟨b, 0, none⟩) L cp) (some (.int .i64 m)) (some (.int .i64 ((m : Int) + 64))) none).run Tryz.prog w = .ok (.slice (some ⟨b, m, none⟩) 64 (cp - m : Nat)) w := by
  rw [run_slice_lh w 23 _ L cp und22 .i64 .i64 m ((m : Int) + 64) (by omega) (by omega) (by omega), size22r]
  simp only [Result.andThen_ok, sliced]
  rw [if_neg (by omega)]
  simp [addr_add]
  omega
theorem pad_iff2 (n j : Nat) (h : j ≤ pads n) : ((n + 1 + j) % 64 = 56) ↔ j = pads n := by unfold pads at *; omega
set_option maxRecDepth 20000 in
set_option maxHeartbeats 4000000 in
theorem ref_any (a : Option Addr) (cap : Nat) (zs : List Int) (w : World) (hl : zs.length ≤ 300000) (hz : IsB zs) (hc : 0 < zs.length → ∃ b off, a = some ⟨b, off, none⟩ ∧ b < w.heap.size ∧ At w b off zs) :
    Calls Tryz.prog 39 #[.slice a zs.length cap] w fun e w' => e = .returned (.agg (row .u8 (sha zs)).toArray) ∧ Below w.heap.size w w' := by
  obtain ⟨i5, hi, hz0, hz1, hz2⟩ := info_parts Tryz.info5
  obtain ⟨zr, HZ⟩ : ∃ zr : Array Value, Hid (zr = (row .u8 z20).toArray) := ⟨_, rfl⟩
  have hz24 := zero24
  rw [← HZ.out] at hz24
  obtain ⟨wA, HWA⟩ : ∃ wA, Hid (wA = w.alloc (.cells zr 31)) := ⟨_, rfl⟩
  have hsA : wA.heap.size = w.heap.size + 1 := by rw [HWA.out]; simp
  have HRA : Hid (wA.heap[w.heap.size]? = some (.cells (row .u8 z20).toArray 31 (0, 0))) := hid (by rw [HWA.out, HZ.out]; exact heap_alloc_new w _)
  have HBA : Hid (Below w.heap.size w wA) := hid (by rw [HWA.out]; exact (Below.refl _ w).alloc (Nat.le_refl _) _)
  obtain ⟨w1, ao, cp, hrun, hown, hgrow⟩ := append_first a cap zs wA (w.heap.size + 1) (by omega) hl (fun h => by obtain ⟨b, off, h1, h2, h3⟩ := hc h; exact ⟨b, off, h1, fun i hi => (HBA.out.cell (p := ⟨b, off + i, none⟩) h2).trans (h3 i hi)⟩)
  obtain ⟨n, HN⟩ : ∃ n, Hid (n = zs.length) := ⟨_, rfl⟩
  rw [← HN.out] at hrun hown hl ⊢
  have hg1 := hgrow.size
  have HR1 : Hid (w1.heap[w.heap.size]? = some (.cells (row .u8 z20).toArray 31 (0, 0))) := (hgrow.block _ (by omega) (by simp)).trans HRA.out
  have HB1 : Hid (Below w.heap.size w w1) := HBA.out.grown hgrow (by omega) (fun k hk => by cases hk)
  have hz1s : w.heap.size + 1 ≤ w1.heap.size := by omega
  rw [HWA.out] at hrun
  clear hgrow hg1 HRA HBA hsA HWA
  go_enter Tryz.func39, Tryz.ntmps39
  go_wp2_with (first
    | refine wpList_append_run rfl _ _ 23 rfl (.slice none 0 0) (.slice a n cap) _ _ rfl rfl hrun ?_
    | (refine wpList_append_lies _ rfl _ _ _ rfl (w.heap.size + 1) 5 i5 (.int .u8 0) 1 1 Tryz.underlying23 hi hz0 hz1 hz2 rfl (by omega) (.slice ao n cp) n (row .u8 zs) rfl (by exact hown.alloc _) ⟨w1.heap.size, 0, none⟩ 1 1 [.int .u8 128] rfl rfl (by intro j u hj; match j, hj with | 0, hj => simp at hj; subst hj; simp [Addr.add]) (by intro u hu; simp at hu; subst hu; rfl) (by omega) (by unfold maxLen; omega) (by omega) (by simp; omega) (w1.heap.size + 1) (by simp) ?_; intro g2 cp2 w2 hown2 hgrow2 hat2 hlt2))
  have HX2 : Hid (Below (w.heap.size + 1) w1 w2) := below_step (Below.refl _ _) hz1s (World.grownBy_alloc w1 _ none) hgrow2 (fun k hk => (own_lt hown k hk).1)
  have HO2 : Hid (w2.ownsRow (w.heap.size + 1) 5 1 (.slice (some ⟨g2, 0, none⟩) (n + 1 + 0 : Nat) cp2) (n + 1 + 0) (row .u8 (zs ++ [128]))) := hid (by rw [row_snoc]; exact hown2)
  clear hown2 hgrow2 hat2 hown hrun
  have hp63 := pads_le n
  go_loopg [3] (pads n) (fun g s wr => ∃ (j gb cp : Nat) (ls : List Int), j ≤ pads n ∧ g = pads n - j ∧ s = .slice (some ⟨gb, 0, none⟩) (n + 1 + j : Nat) cp ∧ Hid (ls = zs ++ 128 :: List.replicate j 0) ∧ wr.ownsRow (w.heap.size + 1) 5 1 (.slice (some ⟨gb, 0, none⟩) (n + 1 + j : Nat) cp) (n + 1 + j) (row .u8 ls) ∧ Hid (Below (w.heap.size + 1) w1 wr))
  case atStart => exact ⟨0, g2, cp2, zs ++ [128], by omega, rfl, rfl, rfl, HO2.out, HX2⟩
  case round =>
    clear HO2 HX2 hlt2
    obtain ⟨j, gb, cp, ls, hj, hk, rfl, HLs, hown, HB⟩ := hrel
    by_cases hlt : j < pads n
    · have hc : ((n : Int) + 1 + j) % 64 ≠ 56 := by have := pad_iff2 n j hj; omega
      go_wp2_with (refine wpList_append_lies _ rfl _ _ _ rfl (w.heap.size + 1) 5 i5 (.int .u8 0) 1 1 Tryz.underlying23 hi hz0 hz1 hz2 rfl (by omega) (.slice (some ⟨gb, 0, none⟩) (n + 1 + j : Nat) cp) (n + 1 + j) (row .u8 ls) rfl (by exact hown.alloc _) ⟨wr.heap.size, 0, none⟩ 1 1 [.int .u8 0] rfl rfl (by intro j u hj; match j, hj with | 0, hj => simp at hj; subst hj; simp [Addr.add]) (by intro u hu; simp at hu; subst hu; rfl) (by omega) (by unfold maxLen; omega) (by omega) (by have := HB.out.size; simp; omega) (wr.heap.size + 1) (by simp) ?_; intro g2 cp2 w3 hown1 hgrow hat hlt2)
      have HB2 : Hid (Below (w.heap.size + 1) w1 w3) := below_step HB.out hz1s (World.grownBy_alloc wr _ none) hgrow (fun k hk => (own_lt hown k hk).1)
      have HO : Hid (w3.ownsRow (w.heap.size + 1) 5 1 (.slice (some ⟨g2, 0, none⟩) (n + 1 + j + 1 : Nat) cp2) (n + 1 + j + 1) (row .u8 (ls ++ [0]))) := hid (by rw [row_snoc]; exact hown1)
      clear hown1 hgrow hat hown hlt2
      go_wp2
      go_roundg (pads n - (j + 1))
      case measure => omega
      case rel => exact ⟨j + 1, g2, cp2, ls ++ [0], by omega, rfl, rfl, hid (by rw [HLs.out, List.replicate_succ', List.append_assoc, List.cons_append]), HO.out, HB2⟩
    · obtain rfl : j = pads n := by omega
      have hc0 : (n + 1 + pads n) % 64 = 56 := (pad_iff2 n (pads n) (Nat.le_refl _)).2 rfl
      obtain ⟨q, HQ⟩ : ∃ q, Hid (q = n + 1 + pads n) := ⟨_, rfl⟩
      have hq64 : q ≤ n + 64 := by have := HQ.out; omega
      rw [← HQ.out] at hown
      have hc2 : (q : Int) % 64 = 56 := by have := HQ.out; omega
      rw [← HQ.out]
      have HLq : Hid (ls = zs ++ 128 :: List.replicate (pads n) 0) := HLs.out
      clear hlt hj hk hc0
      go_wp2
      clear hc2
      go_loopg [3, 5] 8 (fun g s i wr => ∃ (j gb cp : Nat) (ls : List Int), j ≤ 8 ∧ g = 8 - j ∧ i = .int .i64 (7 - (j : Int)) ∧ s = .slice (some ⟨gb, 0, none⟩) (q + j : Nat) cp ∧ Hid (ls = zs ++ (128 :: List.replicate (pads n) 0 ++ (List.range j).map (be8 (8 * n)))) ∧ wr.ownsRow (w.heap.size + 1) 5 1 (.slice (some ⟨gb, 0, none⟩) (q + j : Nat) cp) (q + j) (row .u8 ls) ∧ Hid (Below (w.heap.size + 1) w1 wr))
      case atStart => exact ⟨0, gb, cp, ls, by omega, rfl, rfl, rfl, hid (by rw [HLq.out]; simp), hown, HB⟩
      case round =>
        clear hown HB
        obtain ⟨j, gb, cp, ls, hj, hk, rfl, rfl, HLs, hown, HB⟩ := hrel
        by_cases hlt : j < 8
        · obtain ⟨x, HX⟩ : ∃ x, Hid (x = be8 (8 * n) j) := ⟨_, rfl⟩
          obtain ⟨k, HK⟩ : ∃ k : Nat, Hid (k = 7 - j) := ⟨_, rfl⟩
          have hk7 : (7 : Int) - j = (k : Int) := by have := HK.out; omega
          have hk8 : k ≤ 7 := by have := HK.out; omega
          rw [hk7]
          have hx : (n : Int) * 8 / 2 ^ (8 * k) % 256 = x := by rw [HX.out, HK.out]; unfold be8; rw [Int.natCast_emod, Int.natCast_ediv, Int.natCast_mul, Int.natCast_pow, Int.mul_comm]; rfl
          go_wp2_with (refine wpList_append_lies _ rfl _ _ _ rfl (w.heap.size + 1) 5 i5 (.int .u8 0) 1 1 Tryz.underlying23 hi hz0 hz1 hz2 rfl (by omega) (.slice (some ⟨gb, 0, none⟩) (q + j : Nat) cp) (q + j) (row .u8 ls) rfl (by exact hown.alloc _) ⟨wr.heap.size, 0, none⟩ 1 1 [.int .u8 x] rfl rfl (by intro j u hj; match j, hj with | 0, hj => simp at hj; subst hj; simp [Addr.add]) (by intro u hu; simp at hu; subst hu; rfl) (by omega) (by unfold maxLen; omega) (by omega) (by have := HB.out.size; simp; omega) (wr.heap.size + 1) (by simp) ?_; intro g2 cp2 w3 hown1 hgrow hat hlt2)
          have HB2 : Hid (Below (w.heap.size + 1) w1 w3) := below_step HB.out hz1s (World.grownBy_alloc wr _ none) hgrow (fun k hk => (own_lt hown k hk).1)
          have HO : Hid (w3.ownsRow (w.heap.size + 1) 5 1 (.slice (some ⟨g2, 0, none⟩) (q + j + 1 : Nat) cp2) (q + j + 1) (row .u8 (ls ++ [x]))) := hid (by rw [row_snoc]; exact hown1)
          clear hown1 hgrow hat hown hx hlt2
          go_wp2
          go_roundg (8 - (j + 1))
          case measure => omega
          case rel => exact ⟨j + 1, g2, cp2, ls ++ [x], by omega, rfl, by have := HK.out; go_num, rfl, hid (by rw [HLs.out, HX.out, List.range_succ, List.map_append, List.append_assoc, List.append_assoc]; rfl), HO.out, HB2⟩
        · obtain rfl : j = 8 := by omega
          have HE : Hid (ls = zs ++ endOf n) := hid (by rw [HLs.out]; rfl)
          obtain ⟨T, HT⟩ : ∃ T, Hid (T = q + 8) := ⟨_, rfl⟩
          have hTl : ls.length = T := by rw [HE.out, List.length_append, endOf_len, ← HN.out]; have := HT.out; have := HQ.out; omega
          have hT64 : T % 64 = 0 := by have := end_mod n; rw [← hTl, HE.out, List.length_append, ← HN.out]; exact this
          have hTb : T ≤ 300200 := by have := HT.out; omega
          have hlsb : IsB ls := by rw [HE.out]; exact hz.app (endOf_isB n)
          rw [← HT.out] at hown
          rw [← HT.out]
          have hcpT : T ≤ cp := by
            rcases hown.2 with ⟨_, h0⟩ | ⟨g, cap, cur, hv, _, _, h1, _⟩
            · have := HT.out; omega
            · simp only [Value.slice.injEq] at hv; omega
          have hgbl := own_lt hown gb rfl
          have HAt : Hid (∀ i, i < T → wr.cell? ⟨gb, i, none⟩ = some (.int .u8 (ls.getD i 0))) := fun i hi => by rw [hown.cellAt i (by omega), row_at .u8 ls i (by omega)]
          have HRB : Hid (wr.heap[w.heap.size]? = some (.cells (row .u8 z20).toArray 31 (0, 0))) := (HB.out.block _ (by omega)).trans HR1.out
          have HBB : Hid (Below w.heap.size w wr) := HB1.out.trans (HB.out.mono (by omega))
          obtain ⟨wB, rfl⟩ : ∃ wB, wB = wr := ⟨_, rfl⟩
          have hzB : w.heap.size + 1 ≤ wB.heap.size := by have := HB.out.size; omega
          have HTh : Hid ((wB.alloc (.cells #[.int .u32 0, .int .u32 0, .int .u32 0, .int .u32 0, .int .u32 0] 149)).there wB.heap.size 0 5) := there_cells (heap_alloc_new wB _) rfl
          obtain ⟨w5, HW5⟩ : ∃ w5, Hid (w5 = (wB.alloc (.cells #[.int .u32 0, .int .u32 0, .int .u32 0, .int .u32 0, .int .u32 0] 149)).setCells wB.heap.size 0 (#[.int .u32 1732584193, .int .u32 4023233417, .int .u32 2562383102, .int .u32 271733878, .int .u32 3285377520] : Array Value).toList) := ⟨_, rfl⟩
          have H9 : Hid (w5.heap[wB.heap.size]? = some (.cells #[.int .u32 1732584193, .int .u32 4023233417, .int .u32 2562383102, .int .u32 271733878, .int .u32 3285377520] 149 (0, 0))) := hid (by rw [HW5.out]; exact setCells5 _ _ _ _ _ _ _ _ _ _ _ _ _ (heap_alloc_new wB _))
          have HX5 : Hid (Below wB.heap.size wB w5) := hid (by rw [HW5.out]; exact below_setCells (Nat.le_refl _) _ _ _ _ ((Below.refl _ _).alloc (Nat.le_refl _) _))
          have hz5 : wB.heap.size < w5.heap.size := by rw [HW5.out, size_setCells]; simp
          replace hown := hid hown
          replace hTl := hid hTl
          obtain ⟨NB, HNB⟩ : ∃ NB, Hid (NB = T / 64) := ⟨_, rfl⟩
          have hNB : Hid (T = 64 * NB) := hid (by have := HNB.out; omega)
          clear hj hk hlt
          go_wp2_with (refine wpList_store_mid rfl 149 _ _ rfl wB.heap.size 0 _ rfl rfl HTh.out Tryz.size149 (by simp [Value.oneCell']) ?_; rw [← HW5.out])
          go_loopg [7] NB (fun g i wr => ∃ (k : Nat) (s : S5), k ≤ NB ∧ g = NB - k ∧ i = .int .i64 (64 * k : Nat) ∧ Hid (s = ab ls k) ∧ Hid (wr.heap[wB.heap.size]? = some (.cells #[.int .u32 s.a, .int .u32 s.b, .int .u32 s.c, .int .u32 s.d, .int .u32 s.e] 149 (0, 0))) ∧ Hid (Below wB.heap.size wB wr) ∧ wB.heap.size < wr.heap.size)
          case atStart => exact ⟨0, init5, by omega, rfl, rfl, rfl, H9, HX5, hz5⟩
          case round =>
            clear H9 HX5 hz5
            obtain ⟨k, ⟨a0, b0, c0, d0, e0⟩, hk, hg, rfl, HSt, HR, HBr, hzr⟩ := hrel
            obtain ⟨p, HP⟩ : ∃ p, Hid (p = 64 * k) := ⟨_, rfl⟩
            rw [← HP.out]
            by_cases hlt : k < NB
            · have hpT : (p : Int) < T := by have := HP.out; have := hNB.out; omega
              have hp64 : p + 64 ≤ T := by have := HP.out; have := hNB.out; omega
              obtain ⟨q0, q1, q2, q3, q4⟩ := u5_cells HR.out
              obtain ⟨ck, HCK⟩ : ∃ ck, Hid (ck = (ls.drop (64 * k)).take 64) := ⟨_, rfl⟩
              have hckl : ck.length = 64 := by rw [HCK.out, List.length_take, List.length_drop, hTl.out]; have := HP.out; omega
              have hckb : IsB ck := by rw [HCK.out]; exact (hlsb.drop _).take _
              have hat : At wr gb p ck := fun i hi => by
                have e : ck.getD i 0 = ls.getD (p + i) 0 := by rw [HCK.out, List.getD_eq_getElem?_getD, List.getElem?_take, if_pos (by omega), List.getElem?_drop, ← List.getD_eq_getElem?_getD, HP.out]
                rw [e]; exact (HBr.out.cell (p := ⟨gb, p + i, none⟩) hgbl.2).trans (HAt.out _ (by omega))
              have hwp : IntKind.i64.wrap ((p : Int) + 64) = (p : Int) + 64 := by rw [IntKind.wrap_i64]; omega
              have hsl := fun w => slice22lh gb T cp p w hp64 hcpT
              obtain ⟨cpx, HCX⟩ : ∃ c, Hid (c = cp - p) := ⟨_, rfl⟩
              rw [← HCX.out] at hsl
              obtain ⟨s1, HS1⟩ : ∃ s1, Hid (s1 = comp ⟨a0, b0, c0, d0, e0⟩ ck) := ⟨_, rfl⟩
              have hblk := fun w1 (h : At w1 gb p ck) (h2 : gb < w1.heap.size) => block_any ⟨a0, b0, c0, d0, e0⟩ gb p cpx ck w1 (by rw [HSt.out]; exact ab_ok _ _) hckl hckb h h2
              rw [← HS1.out] at hblk
              obtain ⟨x0, x1, x2, x3, x4⟩ := s1
              have hblk' : ∀ w1, At w1 gb p ck → gb < w1.heap.size → Calls Tryz.prog 80 #[.agg #[.int .u32 a0, .int .u32 b0, .int .u32 c0, .int .u32 d0, .int .u32 e0], .slice (some ⟨gb, p, none⟩) 64 cpx] w1 fun e w' => e = .returned (.agg #[.int .u32 x0, .int .u32 x1, .int .u32 x2, .int .u32 x3, .int .u32 x4]) ∧ Below w1.heap.size w1 w' := hblk
              clear hblk
              have hgz : gb < wr.heap.size := by omega
              replace hckl := hid hckl
              go_wp2
              go_region_with (go_at_call 80; refine (hblk' _ (by exact hat) (by exact hgz)).mono ?_; rintro e w6 ⟨rfl, hb6⟩; have H6 := hid ((hb6.block wB.heap.size hzr).trans HR.out); obtain ⟨y0, y1, y2, y3, y4⟩ := u5_cells H6.out; have g0 := frozen_of_row w6 wB.heap.size 0 _ 149 H6.out; have g1 := frozen_of_row w6 wB.heap.size 1 _ 149 H6.out; have g2 := frozen_of_row w6 wB.heap.size 2 _ 149 H6.out; have g3 := frozen_of_row w6 wB.heap.size 3 _ 149 H6.out; have g4 := frozen_of_row w6 wB.heap.size 4 _ 149 H6.out; replace hb6 := hid hb6)
              have HF6 : Hid ((((((w6.setCell ⟨wB.heap.size, 0, none⟩ (.int .u32 x0)).setCell ⟨wB.heap.size, 1, none⟩ (.int .u32 x1)).setCell ⟨wB.heap.size, 2, none⟩ (.int .u32 x2)).setCell ⟨wB.heap.size, 3, none⟩ (.int .u32 x3)).setCell ⟨wB.heap.size, 4, none⟩ (.int .u32 x4)).heap[wB.heap.size]? = some (.cells #[.int .u32 x0, .int .u32 x1, .int .u32 x2, .int .u32 x3, .int .u32 x4] 149 (0, 0))) := setCells5 w6 wB.heap.size 149 _ _ _ _ _ _ _ _ _ _ H6.out
              have HG6 : Hid (Below wB.heap.size wB (((((w6.setCell ⟨wB.heap.size, 0, none⟩ (.int .u32 x0)).setCell ⟨wB.heap.size, 1, none⟩ (.int .u32 x1)).setCell ⟨wB.heap.size, 2, none⟩ (.int .u32 x2)).setCell ⟨wB.heap.size, 3, none⟩ (.int .u32 x3)).setCell ⟨wB.heap.size, 4, none⟩ (.int .u32 x4))) := below_setCells (Nat.le_refl _) [.int .u32 x0, .int .u32 x1, .int .u32 x2, .int .u32 x3, .int .u32 x4] 0 _ _ (HBr.out.trans (Below.mono (show Below wr.heap.size wr w6 from ⟨hb6.out.os, hb6.out.tape, hb6.out.output, hb6.out.size, hb6.out.block⟩) (by omega)))
              have hz6 : wB.heap.size < w6.heap.size := Nat.lt_of_lt_of_le hzr hb6.out.size
              clear y0 y1 y2 y3 y4 g0 g1 g2 g3 g4 q0 q1 q2 q3 q4 hsl hwp hblk' hat
              go_wp2
              go_roundg (NB - (k + 1))
              case measure => omega
              case rel => exact ⟨k + 1, ⟨x0, x1, x2, x3, x4⟩, by omega, rfl, by have := HP.out; go_num, hid (by rw [HS1.out, HSt.out, HCK.out]; rfl), HF6, HG6, by simpa [World.setCell] using hz6⟩
            · obtain rfl : k = NB := by omega
              have hpT : p = T := by have := HP.out; have := hNB.out; omega
              subst hpT
              obtain ⟨s5, HS5⟩ : ∃ s5 : S5, Hid (s5 = ⟨a0, b0, c0, d0, e0⟩) := ⟨_, rfl⟩
              have HSH : Hid (sha zs = outAt s5 20) := hid (by unfold sha; rw [HS5.out, HSt.out, ← HN.out, ← HE.out, hTl.out, ← HNB.out])
              have hok : S5.ok s5 := by rw [HS5.out, HSt.out]; exact ab_ok _ _
              obtain ⟨sl, HSL⟩ : ∃ sl, Hid (sl = s5.l) := ⟨_, rfl⟩
              have hsll : sl.length = 5 := by rw [HSL.out]; rfl
              have hslw : IsW sl := by rw [HSL.out]; exact l_isW' s5 hok
              have HH : Hid (wr.heap[wB.heap.size]? = some (.cells (row .u32 sl).toArray 149 (0, 0))) := hid (by rw [HSL.out, HS5.out]; exact HR.out)
              have HRr : Hid (wr.heap[w.heap.size]? = some (.cells (row .u8 z20).toArray 31 (0, 0))) := (HBr.out.block _ (by omega)).trans HRB.out
              have HBw : Hid (Below w.heap.size w wr) := HBB.out.trans (HBr.out.mono (by omega))
              obtain ⟨wC, rfl⟩ : ∃ wC, wC = wr := ⟨_, rfl⟩
              have HI3 : Hid ((wC.alloc (.cells zr 31)).heap[wC.heap.size]? = some (.cells (row .u8 (outAt s5 (4 * 0))).toArray 31 (0, 0))) := hid (by rw [outAt_zero, ← HZ.out]; exact heap_alloc_new wC _)
              have HR4 : Hid ((wC.alloc (.cells zr 31)).heap[w.heap.size]? = some (.cells (row .u8 z20).toArray 31 (0, 0))) := hid (by rw [Below.heap_alloc _ _ _ (by omega)]; exact HRr.out)
              have HH4 : Hid ((wC.alloc (.cells zr 31)).heap[wB.heap.size]? = some (.cells (row .u32 sl).toArray 149 (0, 0))) := hid (by rw [Below.heap_alloc _ _ _ (by omega)]; exact HH.out)
              have HB4 : Hid (Below w.heap.size w (wC.alloc (.cells zr 31))) := HBw.out.alloc (by omega) _
              have hwC : w.heap.size < wB.heap.size := by omega
              clear HR HRr HH HBw
              go_wp2
              go_loopg [9] 5 (fun g i wr => ∃ j : Nat, j ≤ 5 ∧ g = 5 - j ∧ i = .int .i64 j ∧ Hid (wr.heap[wC.heap.size]? = some (.cells (row .u8 (outAt s5 (4 * j))).toArray 31 (0, 0))) ∧ Hid (wr.heap[w.heap.size]? = some (.cells (row .u8 z20).toArray 31 (0, 0))) ∧ Hid (wr.heap[wB.heap.size]? = some (.cells (row .u32 sl).toArray 149 (0, 0))) ∧ Hid (Below w.heap.size w wr))
              case atStart => exact ⟨0, by omega, rfl, rfl, HI3, HR4, HH4, HB4⟩
              case round =>
                clear HI3 HR4 HH4 HB4
                obtain ⟨j, hj, hg2, rfl, HI, HR, HH, HBx⟩ := hrel
                by_cases hlt2 : j < 5
                · obtain ⟨x, HX⟩ : ∃ x, Hid (x = sl.getD j 0) := ⟨_, rfl⟩
                  have hx : U x := by rw [HX.out]; exact hslw.at j
                  obtain ⟨hx1, hx2⟩ := hx
                  obtain ⟨m, HM⟩ : ∃ m, Hid (m = 4 * j) := ⟨_, rfl⟩
                  have hm : (4 : Int) * j = (m : Int) := by have := HM.out; omega
                  have hm16 : m ≤ 16 := by have := HM.out; omega
                  rw [← HM.out] at HI
                  go_wp2
                  go_loopg [10] 4 (fun g i wr => ∃ c : Nat, c ≤ 4 ∧ g = 4 - c ∧ i = .int .i64 c ∧ Hid (wr.heap[wC.heap.size]? = some (.cells (row .u8 (outAt s5 (m + c))).toArray 31 (0, 0))) ∧ Hid (wr.heap[w.heap.size]? = some (.cells (row .u8 z20).toArray 31 (0, 0))) ∧ Hid (wr.heap[wB.heap.size]? = some (.cells (row .u32 sl).toArray 149 (0, 0))) ∧ Hid (Below w.heap.size w wr))
                  case atStart => exact ⟨0, by omega, rfl, rfl, HI, HR, HH, HBx⟩
                  case round =>
                    clear HI HR HH HBx
                    obtain ⟨c, hc4, hg3, rfl, HI, HR, HH, HBx⟩ := hrel
                    by_cases hlt3 : c < 4
                    · have cx : wr.cell? ⟨wB.heap.size, j, none⟩ = some (.int .u32 x) := by rw [HX.out]; exact row_cell HH.out j (by omega)
                      have d0 := row_cell HI.out (m + c) (by rw [outAt_len]; omega)
                      have f0 := frozen_of_row wr wC.heap.size (m + c) _ 31 HI.out
                      obtain ⟨sh, HSHF⟩ : ∃ sh : Nat, Hid (sh = 24 - 8 * c) := ⟨_, rfl⟩
                      have hsh : (24 : Int) - 8 * c = (sh : Int) := by have := HSHF.out; omega
                      have hsh2 : sh ≤ 24 := by have := HSHF.out; omega
                      have bi : (j : Int) < 5 := by omega
                      go_wp2
                      go_roundg (4 - (c + 1))
                      case measure => omega
                      case rel =>
                        refine ⟨c + 1, by omega, rfl, by go_num, hid ?_, hid ?_, hid ?_, HBx.out.setCell (by show w.heap.size ≤ wC.heap.size; omega) _⟩
                        · rw [heap_setCell_same wr _ _ _ _ _ HI.out, row_set, ← Nat.add_assoc, outAt_step s5 (m + c) (by omega), show (m + c) / 4 = j from by have := HM.out; omega, show (m + c) % 4 = c from by have := HM.out; omega, ← HSHF.out, ← HSL.out, ← HX.out]
                        · rw [Below.heap_setCell wr ⟨wC.heap.size, m + c, none⟩ _ w.heap.size (by show w.heap.size ≠ wC.heap.size; omega)]; exact HR.out
                        · rw [Below.heap_setCell wr ⟨wC.heap.size, m + c, none⟩ _ wB.heap.size (by show wB.heap.size ≠ wC.heap.size; omega)]; exact HH.out
                    · obtain rfl : c = 4 := by omega
                      go_wp2
                      go_roundg (5 - (j + 1))
                      case measure => omega
                      case rel => exact ⟨j + 1, by omega, rfl, by go_num, hid (by rw [show 4 * (j + 1) = m + 4 from by have := HM.out; omega]; exact HI.out), HR, HH, HBx⟩
                · obtain rfl : j = 5 := by omega
                  obtain ⟨fr, HFR⟩ : ∃ fr, Hid (fr = outAt s5 (4 * 5)) := ⟨_, rfl⟩
                  rw [← HFR.out] at HI
                  have hfl : fr.length = 20 := by rw [HFR.out]; exact outAt_len _ _
                  have HEf : Hid (fr = sha zs) := hid (by rw [HFR.out, HSH.out])
                  have hi24 : (Tryz.prog.info? 31).map (·.size) = some (row .u8 fr).length := by rw [row_len, hfl]; exact Tryz.size31
                  have T1 : Hid (wr.there w.heap.size 0 (row .u8 fr).toArray.size) := hid (by rw [row_size, hfl]; exact there_row HR.out rfl)
                  have T2 : Hid ((Tryz.prog.info? 31).map (·.size) = some (row .u8 fr).toArray.size) := hid (by rw [row_size, hfl]; exact Tryz.size31)
                  have T3 : Hid ((row .u8 fr).toArray.all (·.oneCell') = true) := all_oneCell_toArray (row_one _ _)
                  have T4 : Hid (wr.there w.heap.size 0 (row .u8 fr).length) := hid (by rw [row_len, hfl]; exact there_row HR.out rfl)
                  go_wp2_with (first | refine wpList_load_mid rfl 31 _ rfl wC.heap.size 0 rfl (row .u8 fr) _ (range_row HI.out) Tryz.underlying31 rfl hi24 ?_ | refine wpList_store_mid rfl 31 _ _ rfl w.heap.size 0 (row .u8 fr).toArray rfl rfl T1.out T2.out T3.out ?_)
                  exact bodyPost_ret (v := .agg (row .u8 fr).toArray) (results_mid Tryz.results39 _ _ w.heap.size _ _ rfl (World.rangeAt_setCells_same wr w.heap.size 0 _ T4.out) Tryz.underlying31 rfl hi24) rfl ⟨by rw [HEf.out], below_setCells (Nat.le_refl _) _ _ _ _ HBx.out⟩
end Go.Proofs.YtbpdielmdhhdfaaGreatDoor
/- 'slices.AppendSeq' of entries; 'slices.Collect'. -/
namespace Go.Proofs.YtbpdielmdhhdfaaGreatDoor
open Go.RowKit Go.Shelf Go.Maps
variable [Inhabited Er]
set_option linter.unusedVariables false
set_option linter.unusedSectionVars false
set_option linter.unusedSimpArgs false
attribute [local go_sem] Oper.semAt_some
/-- A range over a function, where a round lays its variable first. -/
theorem range_allA {α : Type} {F : Fence} {n : Nat} {P : Program} {g : Operand} {ps : Array Tmp} {assign body : Code} {Q : Exit → Act → World → Prop} {a : Act} {w : World}
    (hro : F.round = none) (h1 : 1 ≤ n) {gf : Nat} {lb : Array Value} (hg : a.eval g = .func (.func gf) #[] lb) (hFg : F.fn gf) (eg : ∀ args w, (callFunc gf args).run P w = .ok (.enter gf args) w)
    {encs : α → Array Value} {Fx : α → World → Prop} {Kp : Nat → World → World → Prop} {S : List α → Prop} {N : Nat} (hseq : SeqAll F (n - 1) P gf lb encs Fx Kp S N w) (hps : ∀ x, (encs x).size = ps.size)
    (hKt : ∀ {l : Nat} {A B C : World}, Kp l A B → Kp l B C → Kp l A C) (hKl : ∀ (l : Nat) (W : World) (r r' : Loop), w.heap.size ≤ l → W.heap[l]? = some (.loop r) → Kp l W (W.putObj l (.loop r')))
    (hFl : ∀ (l : Nat) (W : World) (r r' : Loop) (x : α), w.heap.size ≤ l → W.heap[l]? = some (.loop r) → Fx x W → Fx x (W.putObj l (.loop r')))
    (I : List α → World → Prop) (hI : ∀ s A B, I s A → A.grownBy B none → I s B) (hIl : ∀ (s : List α) (l : Nat) (W : World) (r r' : Loop), w.heap.size ≤ l → W.heap[l]? = some (.loop r) → I s W → I s (W.putObj l (.loop r')))
    (h0 : I [] w) (ax : α → World → Act) (aw : α → World → World) (hag : ∀ (x : α) (W : World), W.grownBy (aw x W) none) (hKa : ∀ (l : Nat) (x : α) (W : World), w.heap.size ≤ l → l < W.heap.size → Kp l W (aw x W)) (hFa : ∀ (x : α) (W : World), Fx x W → Fx x (aw x W))
    (hassign : ∀ (l : Nat) (x : α) (W : World) (K : Act → World → Prop), Fx x W → K (ax x W) (aw x W) → assign.wpIn (F.inRound l) (n - 1 - 1) P (Exit.then K (fun _ _ _ => False)) { tmps := (ps.zip (encs x)).foldl (fun t (p, v) => t.setIfInBounds p v) a.tmps, defers := [] } W)
    (hbody : ∀ (l : Nat) (pre : List α) (x : α) (W0 W : World), w.heap.size ≤ l → l < W0.heap.size → (∀ k, k ≠ l → W.heap[k]? = (aw x W0).heap[k]?) → I pre W → Fx x W → pre.length < N → l < W.heap.size → W0.heap.size ≤ W.heap.size → body.wpIn (F.inRound l) (n - 1 - 1) P (fun e _ W' => e = .normal ∧ KeepsFrom w.heap.size W W' ∧ Kp l W W' ∧ I (pre ++ [x]) W') (ax x W0) W)
    (hdone : ∀ (D : Nat) (xs : List α) (W : World), w.heap.size ≤ D → S xs → I xs W → W.heap[D]? = some (.deferred (some [])) → Q .normal { a with defers := { target := .collected D, args := #[] } :: a.defers } W) :
    (Code.rangeFunc g ps assign body).wpIn F n P Q a w := by
  refine wpIn_rangeFunc ?_
  intro fn hfn
  rw [hro]
  obtain ⟨rc, hrc⟩ : ∃ rc : LoopState → Loop, rc = fun st => { state := st, pending := none, fn, tmps := a.tmps, params := ps, assign, body, defers := w.heap.size } := ⟨_, rfl⟩
  obtain ⟨W1, hW1⟩ : ∃ W1, (w.alloc (.deferred (some []))).alloc (.loop (rc .ready)) = W1 := ⟨_, rfl⟩
  have hg1 : w.grownBy W1 none := by rw [← hW1]; exact (hg_alloc w _).trans (hg_alloc _ _)
  have hs1 : W1.heap.size = w.heap.size + 2 := by rw [← hW1]; simp
  have hL1 : W1.heap[w.heap.size + 1]? = some (.loop (rc .ready)) := by
    rw [← hW1]; have := World.alloc_heap_new (w.alloc (.deferred (some []))) (.loop (rc .ready)); rwa [World.size_alloc] at this
  have hD1 : W1.heap[w.heap.size]? = some (.deferred (some [])) := by
    rw [← hW1]; exact (Below.heap_alloc _ _ _ (by simp)).trans (World.alloc_heap_new w _)
  have hb1 : Below w.heap.size w W1 := ⟨hg1.os, hg1.tape, hg1.output, hg1.size, fun k hk => hg1.block k hk (by simp)⟩
  refine ⟨w.heap.size + 1, [{ target := .collected w.heap.size, args := #[] }], W1, { target := .fn (.func gf) lb, args := #[.func (.yield (w.heap.size + 1)) #[] #[]] }, W1, gf,
    #[.func (.yield (w.heap.size + 1)) #[] #[]] ++ lb, W1, ?_, ?_, ?_, ?_, fun _ => h1, ?_⟩
  · rw [← hW1, hrc]; exact run_enterLoop_outer _ _ _ _ _
  · simp only [resolve, hg]
    simp [go_sem]
  · intro f' hf'; simp [Target.leads] at hf'; subst hf'; exact hFg
  · simp [invoke, go_sem, eg]
  · have keep : ∀ {A B : World} {k : Nat} {o : Obj}, A.grownBy B none → A.heap[k]? = some o → B.heap[k]? = some o := fun hg' hk => (hg'.block _ (Array.getElem?_eq_some_iff.1 hk).1 (by simp)).trans hk
    refine (hseq (w.heap.size + 1) (fun pre W => I pre W ∧ W.heap[w.heap.size + 1]? = some (.loop (rc .ready)) ∧ W.heap[w.heap.size]? = some (.deferred (some []))) W1 hb1 (by omega) (by omega)
      (fun s A B hs hg' => ⟨hI s A B hs.1 hg', keep hg' hs.2.1, keep hg' hs.2.2⟩) ?_ ⟨hI _ _ _ h0 hg1, hL1, hD1⟩).mono ?_
    · rintro pre x W0 ⟨hi0, hl0, hd0⟩ hfx0 hlen
      have hlt0 : w.heap.size + 1 < W0.heap.size := (Array.getElem?_eq_some_iff.1 hl0).1
      have hy := run_yield (P := P) (args := encs x) hl0 (by rw [hrc]; exact hps x)
      rw [hrc] at hy
      have hle : w.heap.size ≤ w.heap.size + 1 := by omega
      have hga := hag x W0
      have hi := hI _ _ _ hi0 hga
      have hl := keep hga hl0
      have hd := keep hga hd0
      have hfx := hFa x W0 hfx0
      have hKp0 := hKa (w.heap.size + 1) x W0 hle hlt0
      refine ⟨fn, _, assign, body, hy, roundIn_of_wpIn hfn (hassign _ x W0 _ hfx0 ?_)⟩
      have hbody0 := hbody (w.heap.size + 1) pre x W0
      have hsz0 := hga.size
      generalize hWW : aw x W0 = W at hi hl hd hfx hKp0 hbody0 hsz0 ⊢
      have hlt : w.heap.size + 1 < W.heap.size := (Array.getElem?_eq_some_iff.1 hl).1
      refine ⟨_, run_beginRound hl (by rw [hrc]), ?_⟩
      have hl2 : (W.putObj (w.heap.size + 1) (.loop { rc .ready with state := .busy })).heap[w.heap.size + 1]? = some (.loop { rc .ready with state := .busy }) := World.putObj_heap_same hlt
      have hd2 : (W.putObj (w.heap.size + 1) (.loop { rc .ready with state := .busy })).heap[w.heap.size]? = some (.deferred (some [])) := (World.putObj_heap_other (by omega)).trans hd
      refine wpIn_mono (hbody0 _ hle hlt0 (fun k hk => World.putObj_heap_other hk) (hIl _ _ _ _ _ hle hl hi) (hFl _ _ _ _ _ hle hl hfx) hlen (by rw [World.putObj_size]; exact hlt) (by rw [World.putObj_size]; exact hsz0)) ?_
      rintro e a3 W3 ⟨rfl, hk3, hkp3, hi3⟩
      have hl3 := hk3.same _ _ hle hl2 rfl
      have hd3 := hk3.same _ _ (Nat.le_refl _) hd2 rfl
      have hr := run_endRound (P := P) none hl3
      refine ⟨_, _, hr, rfl, ⟨hIl _ _ _ _ _ hle hl3 hi3, ?_, (World.putObj_heap_other (by omega)).trans hd3⟩, hKt hKp0 (hKt (hKt (hKl _ _ _ _ hle hl) hkp3) (hKl _ _ _ _ hle hl3))⟩
      rw [World.putObj_heap_same (Array.getElem?_eq_some_iff.1 hl3).1, hrc]
      rfl
    · rintro e W2 ⟨⟨v, rfl⟩, xs, hS, hi, hl, hd⟩
      refine ⟨none, _, by have := run_endLoop (P := P) hl (by rw [hrc]; simp); rw [hrc] at this; exact this, ?_⟩
      exact hdone _ xs _ (Nat.le_refl _) hS (hIl _ _ _ _ _ (by omega) hl hi) ((World.putObj_heap_other (by omega)).trans hd)
/-- Their cells. -/
def fE (es : List Er) : List Value := es.flatMap erV
theorem fE_snoc (es : List Er) (x : Er) : fE (es ++ [x]) = fE es ++ erV x := by simp [fE]
/-- What the loop keeps. -/
def CoI (w : World) (X B : Nat) (v : Value) (pre : List Er) (W : World) : Prop :=
  ∃ u, Boxed W X 47 u ∧ W.ownsRow B 51 22 u pre.length (fE pre) ∧ Mv w W v u
theorem CoI.grow {w : World} {X B : Nat} {v : Value} (s : List Er) (A C : World) (h : CoI w X B v s A) (hg : A.grownBy C none) : CoI w X B v s C := by
  obtain ⟨u, h1, h2, h3⟩ := h
  exact ⟨u, h1.kept hg (by simp), h2.kept hg (by cases e : u.ownBlock <;> simp), h3.trans (Mv.grow u hg)⟩
theorem CoI.put {w : World} {X B : Nat} {v : Value} {n : Nat} (hX : X < n) (hw : w.heap.size ≤ n) (s : List Er) (l : Nat) (W : World) (r r' : Loop) (hl : n ≤ l) (hr : W.heap[l]? = some (.loop r)) (h : CoI w X B v s W) : CoI w X B v s (W.putObj l (.loop r')) := by
  obtain ⟨u, h1, h2, h3⟩ := h
  exact ⟨u, (World.putObj_heap_other (by omega)).trans h1, ownsRow_putObj h2 _ hr rfl, h3.put _ (by omega)⟩
theorem Tryz.results126 : Tryz.f126.results = #[.tmp 4] := by kernel_rfl
/-- Entries of its own. -/
def PostK (w : World) (es : List Er) (e : Ending) (w' : World) : Prop := ∃ v', e = .returned v' ∧ w'.ownsRow w.heap.size 51 22 v' es.length (fE es) ∧ Below w.heap.size w w'
set_option maxRecDepth 100000 in
set_option maxHeartbeats 4000000 in
theorem appendSeq_any (Bs : Nat) (a : Option Addr) (cap : Nat) (es : List Er) (w : World) (hwf : WfE es) (hP : Pe w a cap es) (hl : es.length ≤ 1000) (hbs : Boxed w Bs 47 (.slice a es.length cap)) :
    Calls Tryz.prog 126 #[.slice none 0 0, .func (.func 91) #[] #[.pointer (some ⟨Bs, 0, none⟩)]] w (PostK w es) := by
  have hi0 := Tryz.info51
  have hb0 := Tryz.bytes51
  cases hq : Tryz.prog.info? 51 with
  | none => rw [hq] at hi0; cases hi0
  | some i51 =>
  rw [hq] at hi0 hb0
  simp only [Option.map_some, Option.some.injEq, Prod.mk.injEq] at hi0 hb0
  obtain ⟨hz0, hz1⟩ := hi0
  have HI : Hid (Tryz.prog.info? 51 = some i51) := hq
  have HZ0 : Hid (i51.zero = some (.agg (erV ⟨0, [], z20⟩).toArray)) := hz0
  have HZ1 : Hid (i51.size = 22) := hz1
  have HZ2 : Hid (i51.bytes = 48) := hb0
  have HS51 : Hid ((Tryz.prog.info? 51).map (·.size) = some 22) := size51
  clear hq hz0 hz1 hb0
  have HPE : Hid (Pe w a cap es) := hP
  have HWF : Hid (WfE es) := hwf
  have HBS : Hid (Boxed w Bs 47 (.slice a es.length cap)) := hbs
  clear hP hwf hbs
  obtain ⟨zr, HZ⟩ : ∃ zr : Array Value, Hid (zr = (erV ⟨0, [], z20⟩).toArray) := ⟨_, rfl⟩
  have hz51 : ∀ w : World, (zeroValue 51).run Tryz.prog w = .ok (.agg zr) w := fun w => by rw [HZ.out]; exact zero51 w
  refine (callsIn_wide (n := 3)).1 ?_
  refine callsIn_of_wp_marks Tryz.func126 rfl trivial ?_ rfl
  simp only [Tryz.ntmps126, List.size_toArray, List.length_cons, List.length_nil, Nat.reduceAdd, Nat.reduceSub, Array.replicate_succ, Array.replicate_zero, List.push_toArray, List.append_toArray, List.nil_append, List.cons_append]
  gi_wp2
  obtain ⟨X, HX⟩ : ∃ X, Hid (X = w.heap.size) := ⟨_, rfl⟩
  obtain ⟨WL, HWL⟩ : ∃ WL, Hid (w.alloc (.cells #[.slice none 0 0] 47) = WL) := ⟨_, rfl⟩
  have hgw : w.grownBy WL none := by rw [← HWL.out]; exact hg_alloc w _
  have hsz : WL.heap.size = X + 1 := by rw [← HWL.out, HX.out]; simp
  have bX : Boxed WL X 47 (.slice none 0 0) := by rw [← HWL.out, HX.out]; exact Boxed.new w 47 _
  have hno : ∀ k, ¬ Ob X WL k := fun k ⟨u, h1, h2⟩ => by rw [bX.cell] at h1; cases h1; cases h2
  have hbw : Below w.heap.size w WL := ⟨hgw.os, hgw.tape, hgw.output, hgw.size, fun k hk => hgw.block k hk (by simp)⟩
  have hI0 : CoI w X X (.slice none 0 0) [] WL := ⟨_, bX, World.ownsRow_nil _ _ _ _, Mv.grow _ hgw⟩
  have hSL : Pe WL a cap es := HPE.out.below hbw
  have bS : Boxed WL Bs 47 (.slice a es.length cap) := HBS.out.kept hgw (by simp)
  have hBsX : Bs < X := by rw [HX.out]; exact HBS.out.lt
  have hfa : 0 < es.length → ∀ p : Addr, a = some p → Fre X WL p.block := fun h0 p hp => by
    obtain ⟨b, off, e1, e2, _⟩ := HPE.out.at_ h0
    rw [hp] at e1; cases e1
    rw [← HX.out] at e2
    exact ⟨by rw [hsz]; exact Nat.lt_succ_of_lt e2, Nat.ne_of_lt e2, hno _⟩
  rw [HWL.out]
  rw [← HX.out]
  have hXw : w.heap.size ≤ X := by rw [HX.out]; exact Nat.le_refl _
  refine range_allA (F := Fence.wide) (n := 3) rfl (by omega) (gf := 91) (lb := #[.pointer (some ⟨Bs, 0, none⟩)]) rfl trivial (enters_of Tryz.func91 (by kernel_rfl) rfl)
    (values_all 2 (by omega) WL X Bs a cap es HWF.out hSL hl bS (by omega) ⟨by omega, by omega, hno _⟩ hfa)
    (fun _ => rfl) Kx.trans (fun l W r r' hl _ => Kx.loop (r := r) (by omega)) (fun l W r r' x hl hr hf => hf)
    (CoI w X X (.slice none 0 0)) (fun s A C h hg => CoI.grow s A C h hg) (fun s l W r r' hl hr h => CoI.put (n := WL.heap.size) (by omega) (by omega) s l W r r' hl hr h) hI0
    (fun x W => { tmps := #[.slice none 0 0, .func (.func 91) #[] #[.pointer (some ⟨Bs, 0, none⟩)], .pointer (some ⟨X, 0, none⟩), undef, .slice none 0 0, .pointer (some ⟨W.heap.size, 0, none⟩), .func (.func 91) #[] #[.pointer (some ⟨Bs, 0, none⟩)], .agg (erV x).toArray, undef, undef, undef, undef, undef], defers := [] }) (fun x W => (W.alloc (.cells zr 51)).setRow W.heap.size (erV x).toArray) ?_ ?_ (fun x W h => h) ?assign ?body ?done
  · intro x W; exact grown_of_below (below_setRow ((Below.refl _ W).alloc (Nat.le_refl _) _) (Nat.le_refl _) _) _
  · intro l x W h1 h2; exact Kx.grow (by omega) (grown_of_below (below_setRow ((Below.refl _ W).alloc (Nat.le_refl _) _) (Nat.le_refl _) _) _)
  case assign =>
    intro l x W K hx20 hK
    obtain ⟨R, HR⟩ : ∃ R : List Value, Hid (erV x = R) := ⟨_, rfl⟩
    have HFN : Hid (R.length = 22) := hid (by rw [← HR.out]; exact erV_len x hx20)
    have I51 : Hid ((Tryz.prog.info? 51).map (·.size) = some R.toArray.size) := hid (by rw [List.size_toArray, HFN.out]; exact HS51.out)
    have E51 : Hid (zr.size = R.toArray.size) := hid (by rw [HZ.out, List.size_toArray, List.size_toArray, HFN.out]; rfl)
    have O51 : Hid (R.toArray.all (·.oneCell') = true) := hid (by rw [← HR.out]; exact all_oneCell_toArray (erV_one _))
    have D0 : Hid ((W.alloc (.cells zr 51)).heap[W.heap.size]? = some (.cells zr 51 (0, 0))) := heap_alloc_new W _
    rw [HR.out] at hK
    dsimp only [encE]
    rw [HR.out]
    gi_wp2_with (refine wpListIn_store_row rfl 51 _ _ rfl W.heap.size R.toArray rfl rfl 51 zr D0.out I51.out E51.out O51.out ?_)
    exact hK
  case body =>
    rintro l pre x W0 W hlX hlW0 hoth ⟨u, b1, o1, m1⟩ hx20 hlen hlW hsW
    have hlX' : X + 1 ≤ l := by omega
    clear hsz
    obtain ⟨N, HN⟩ : ∃ N, Hid (N = pre.length) := ⟨_, rfl⟩
    obtain ⟨L, HL⟩ : ∃ L, Hid (L = fE pre) := ⟨_, rfl⟩
    have hN : N ≤ 1000 := by rw [HN.out]; omega
    rw [← HN.out, ← HL.out] at o1
    obtain ⟨ua, uc, rfl⟩ := owns_shape o1
    obtain ⟨V, HV⟩ : ∃ V, Hid (W0.heap.size = V) := ⟨_, rfl⟩
    obtain ⟨R, HR⟩ : ∃ R : List Value, Hid (erV x = R) := ⟨_, rfl⟩
    have HFN : Hid (R.length = 22) := hid (by rw [← HR.out]; exact erV_len x hx20)
    have hi51 : (Tryz.prog.info? 51).map (·.size) = some R.length := by rw [HFN.out]; exact HS51.out
    have R2 : Hid (W.rangeAt V 0 R) := hid (by
      rw [← HV.out, ← HR.out]
      refine range_row (t := 51) (fr := (0, 0)) ?_
      rw [hoth _ (by omega)]
      exact setRow_heap _ _ _ (erV x).toArray _ _ (heap_alloc_new W0 _))
    have HRB : Hid (∀ W, (Instr.buildSlice 47 1 #[(0, .agg R.toArray)]).run Tryz.prog W = .ok (.slice (some ⟨W.heap.size, 0, none⟩) 1 1) (W.alloc (.cells R.toArray 51))) := fun W => by rw [← HR.out]; exact run_build51 x hx20 W
    have HR1 : Hid (∀ v ∈ R, v.oneCell' = true) := hid (by rw [← HR.out]; exact erV_one x)
    have hXne : some X ≠ (Value.slice ua N uc).ownBlock := b1.not_row (by decide) o1
    have k0 := b1.cell
    have f0 := b1.frozen
    have hBW : X ≤ W.heap.size := by have := m1.size; omega
    have HO1 : Hid (W.ownsRow X 51 22 (.slice ua N uc) N L) := o1
    have HB1 : Hid (Boxed W X 47 (.slice ua N uc)) := b1
    have HM1 : Hid (Mv w W (.slice none 0 0) (.slice ua N uc)) := m1
    have HNR : Hid (∀ j z, R[j]? = some z → (W.alloc (.cells R.toArray 51)).cell? ((⟨W.heap.size, 0, none⟩ : Addr).add j) = some z) := news_rowE _ _ _
    clear o1 b1 m1 hoth
    rw [HV.out]
    gi_wp2_with (first
      | refine wpListIn_load_mid rfl 51 _ rfl V 0 rfl R _ R2.out Tryz.underlying51 rfl hi51 ?_
      | refine wpListIn_buildSlice rfl 47 1 _ rfl (.agg R.toArray) _ rfl (HRB.out _) ?_
      | (gi_at_builtin; refine wpListIn_append_own_at _ rfl _ _ 47 rfl X 51 i51 (.agg (erV ⟨0, [], z20⟩).toArray) 22 48 Tryz.underlying47 HI.out HZ0.out HZ1.out HZ2.out rfl (by decide) _ N L rfl (HO1.out.alloc _) ⟨W.heap.size, 0, none⟩ 1 1 R rfl (by rw [HFN.out]) HNR.out HR1.out (by unfold maxLen; omega) (by omega) (by simp; omega) ?_; intro v1 w1 ho1 hg1 hn1 hl1; obtain ⟨a1, c1, rfl⟩ := owns_shape ho1; have HV1 : Hid (Mv W w1 (.slice ua N uc) (.slice a1 (N + 1 : Nat) c1)) := Mv.app (hg_alloc W _) hg1 hl1; have HW1 : Hid (w1.ownsRow X 51 22 (.slice a1 (N + 1 : Nat) c1) (N + 1) (L ++ R)) := ho1; clear ho1 hg1 hn1 hl1; have HB2 : Hid (Boxed w1 X 47 (.slice ua N uc)) := (HV1.out.blk X HB1.out.lt hXne).trans HB1.out; have kx1 := HB2.out.cell; have fx1 := HB2.out.frozen))
    have K1 := keeps_mv HB1.out HO1.out HV1.out WL.heap.size
    have X1 : Kx X l W (w1.setCell ⟨X, 0, none⟩ (.slice a1 (N + 1 : Nat) c1)) := Kx.mv HB1.out HV1.out hXne (fun k hk => (HW1.out.lt k hk).2)
    have hS3 : some X ≠ (Value.slice a1 (N + 1 : Nat) c1).ownBlock := Boxed.not_row HB2.out (by decide) HW1.out
    refine ⟨K1, X1, _, Boxed.set _ HB2.out, ?_, (HM1.out.trans HV1.out).store hXw _⟩
    rw [List.length_append, fE_snoc, ← HN.out, ← HL.out, HR.out]
    exact HW1.out.kept (grownBy_setCell' w1 X (.slice a1 (N + 1 : Nat) c1)) (.inr (Ne.symm hS3))
  case done =>
    rintro D xs W hD hS ⟨u, b1, o1, m1⟩ hK
    subst hS
    obtain ⟨ua, uc, rfl⟩ := owns_shape o1
    have k0 := b1.cell
    have HK : Hid (W.heap[D]? = some (.deferred (some []))) := hK
    have hwD : w.heap.size ≤ D := by omega
    gi_wp2
    refine ret_1 Tryz.results126 _ _ D (.slice ua xs.length uc) rfl HK.out _ ⟨_, rfl, ?_, (m1.put _ hwD).below (fun k hk => by cases hk) (Nat.le_refl _)⟩
    rw [← HX.out]
    exact ownsRow_putObj o1 _ HK.out rfl
end Go.Proofs.YtbpdielmdhhdfaaGreatDoor
/- Entries in their order: plainly. -/
namespace Go.Proofs.YtbpdielmdhhdfaaGreatDoor
open Go.RowKit
set_option linter.unusedVariables false
set_option linter.unusedSimpArgs false
theorem cb_iff : ∀ a b : List UInt8, Lib.compareBytes a b < 0 ↔ a < b
  | [], [] => by simp [Lib.compareBytes]
  | [], b :: bs => by simp [Lib.compareBytes]
  | a :: xs, [] => by simp [Lib.compareBytes]
  | a :: xs, b :: bs => by
    rw [Lib.compareBytes, List.cons_lt_cons_iff, ← cb_iff xs bs]
    by_cases h1 : a < b
    · simp [h1]
    · rw [if_neg h1]
      by_cases h2 : b < a
      · rw [if_pos h2]
        have hne : a ≠ b := fun e => by rw [e] at h2; exact absurd h2 (by rw [UInt8.lt_iff_toNat_lt]; omega)
        simp [h1, hne]
      · rw [if_neg h2]
        have he : a = b := by
          rw [UInt8.lt_iff_toNat_lt] at h1 h2
          exact UInt8.toNat_inj.1 (by omega)
        simp [h1, he]
/-- No later one comes first. -/
def Asc2 (l : List (List UInt8)) : Prop := l.Pairwise (fun a b => ¬ b < a)
theorem lex_total (a b : List UInt8) (h1 : ¬ a < b) (h2 : ¬ b < a) : a = b := List.le_antisymm (List.not_lt.1 h2) (List.not_lt.1 h1)
theorem lex_trans (a b c : List UInt8) (h1 : a < b) (h2 : b < c) : a < c := List.lt_trans h1 h2
theorem lex_ntrans (a b c : List UInt8) (h1 : ¬ a < b) (h2 : ¬ b < c) : ¬ a < c := List.not_lt.2 (List.le_trans (List.not_lt.1 h2) (List.not_lt.1 h1))
theorem lex_irrefl (a : List UInt8) : ¬ a < a := List.lt_irrefl a
/-- Entries that stand in order, whose places differ: there is one such row of them. -/
theorem asc_one : ∀ (x y : List Er), x.Perm y → (x.map keyB).Nodup → x.Pairwise (fun a b => ¬ keyB b < keyB a) → y.Pairwise (fun a b => ¬ keyB b < keyB a) → x = y
  | [], y, hp, _, _, _ => by simpa using hp.symm.eq_nil
  | a :: x, [], hp, _, _, _ => by simpa using hp.eq_nil
  | a :: x, b :: y, hp, hn, hx, hy => by
    have hn' := hn
    rw [List.map_cons, List.nodup_cons] at hn
    rw [List.pairwise_cons] at hx hy
    have hk : keyB a = keyB b := by
      have ha : a ∈ b :: y := hp.subset (List.mem_cons_self)
      have hb : b ∈ a :: x := hp.symm.subset (List.mem_cons_self)
      rcases List.mem_cons.1 ha with h | h
      · rw [h]
      · rcases List.mem_cons.1 hb with h' | h'
        · rw [h']
        · exact lex_total _ _ (hy.1 a h) (hx.1 b h')
    have hab : a = b := by
      have hb : b ∈ a :: x := hp.symm.subset (List.mem_cons_self)
      rcases List.mem_cons.1 hb with h' | h'
      · exact h'.symm
      · exact absurd (List.mem_map.2 ⟨b, h', hk.symm⟩) hn.1
    subst hab
    rw [asc_one x y (List.perm_cons a |>.1 hp) hn.2 hx.2 hy.2]
end Go.Proofs.YtbpdielmdhhdfaaGreatDoor
