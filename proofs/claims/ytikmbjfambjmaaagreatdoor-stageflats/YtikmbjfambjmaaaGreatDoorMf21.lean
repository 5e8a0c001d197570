import Derived.Test.YtikmbjfambjmaaaGreatDoorMf20
import Derived.Test.YtikmbjfambjmaaaGreatDoorMf18
namespace Go.Proofs.YtikmbjfambjmaaaGreatDoor.Gr
open Go.RowKit Go.Shelf
set_option linter.unusedVariables false
set_option linter.unusedSimpArgs false
attribute [local go_sem] Oper.semAt_some
def PostFl (its : List It) (w : World) (e : Ending) (w' : World) : Prop := Below w.heap.size w w' ∧ ∃ er fs, sc its [] = (er, fs) ∧ ((er = 0 ∧ ∃ ra rc, e = .returned (.tuple #[.slice ra fs.length rc, .nilIface]) ∧ Px encF 24 f0 w' ra rc fs ∧ IdF fs ∧ fs.length ≤ 2000) ∨ (er ≠ 0 ∧ ∃ ev, e = .returned (.tuple #[.slice none 0 0, ev]) ∧ EvIs w' er ev))
theorem made52 (w : World) : (Instr.makeMap 52 none).run Tryz.prog w = .ok (.map (some w.heap.size)) (w.alloc (.map #[] 0)) := by kernel_rfl
theorem zero28 (w : World) : (zeroValue 28).run Tryz.prog w = .ok (.agg #[.int .i64 0, .slice none 0 0]) w := by kernel_rfl
theorem Tryz.results7 : Tryz.f7.results = #[.cell 4 36, .cell 5 38] := by kernel_rfl
structure Bs7 (K : Nat) (X : List Value) (W : World) : Prop where
  x : W.heap[K]? = some (.cells X.toArray 24 (0, 0))
  r0 : W.heap[K + 1]? = some (.cells #[.slice none 0 0] 36 (0, 0))
  r1 : W.heap[K + 1 + 1]? = some (.cells #[.nilIface] 38 (0, 0))
theorem Bs7.grow {K : Nat} {X : List Value} {W W' : World} (h : Bs7 K X W) (hb : ∀ k, K ≤ k → k ≤ K + 1 + 1 → W'.heap[k]? = W.heap[k]?) : Bs7 K X W' := ⟨(hb K (by omega) (by omega)).trans h.x, (hb _ (by omega) (by omega)).trans h.r0, (hb _ (by omega) (by omega)).trans h.r1⟩
theorem sc_zero : ∀ (l : List It) (r : List It) (acc : List Fe), (∀ x ∈ l, x.1 = 0) → acc.length + l.length ≤ 2000 → sc (l ++ r) acc = sc r (acc ++ l.map (·.2))
  | [], r, acc, _, _ => by simp
  | x :: l, r, acc, h, hl => by
    rw [List.length_cons] at hl
    rw [List.cons_append, sc, if_pos (h x (by simp)), if_neg (by omega), sc_zero l r _ (fun y hy => h y (by simp [hy])) (by rw [List.length_append]; simp only [List.length_cons, List.length_nil]; omega), List.append_assoc]
    rfl
theorem wpListIn_execV {F : Fence} {nF : Nat} {P : Program} {ops : Array Oper} {rest : List Oper} {o : Oper} {a : Act} {w w' : World} {Q : Exit → Act → World → Prop} {v : Value} (hg : o.guard = none) (hd : ∀ c, o.op ≠ .defer c) (hab : ∀ f, o.about P w a.eval = some f → F.fn f)
    (hr : (execOp a.eval o).run P w = .ok (.value v) w') (h : wpListIn F nF P ops Q rest (a.put o.dst v) w') : wpListIn F nF P ops Q (o :: rest) a w := by
  refine wpListIn_plain hg fun K hK => ?_
  unfold Oper.wpIn
  refine ⟨hab, ?_⟩
  rw [Oper.semAt_plain F _ _ hd, hr]
  exact hK _ _ h
set_option maxRecDepth 20000 in
theorem run_bs36 (f : Fe) (h : f.id.length = 20) (w : World) : (Instr.buildSlice 36 1 #[(0, .agg (encF f).toArray)]).run Tryz.prog w = .ok (.slice (some ⟨w.heap.size, 0, none⟩) 1 1) (w.alloc (.cells (encF f).toArray 60)) := by
  obtain ⟨i, hq, hz, hs, _⟩ := info_parts info60
  refine run_buildSlice w 36 60 1 _ (encF f).toArray i _ Tryz.underlying36 hq hz (by rw [hs]; decide) (by rw [hs]; decide) ?_
  rw [hs]
  obtain ⟨p, m, x⟩ := f
  obtain ⟨a0, a1, a2, a3, a4, a5, a6, a7, a8, a9, a10, a11, a12, a13, a14, a15, a16, a17, a18, a19, rfl⟩ := list20 x h
  unfold encF
  simp only
  generalize (⟨p.toArray⟩ : ByteArray) = P
  kernel_rfl
theorem px_one60 (w : World) (f : Fe) : Px encF 24 f0 (w.alloc (.cells (encF f).toArray 60)) (some ⟨w.heap.size, 0, none⟩) 1 [f] :=
  ⟨Nat.le_refl _, fun _ => ⟨w.heap.size, 0, rfl, by simp, fun i hi j v hv => by
    obtain rfl : i = 0 := by simpa using hi
    exact range_row (heap_alloc_new w (.cells (encF f).toArray 60)) j v (by simpa using hv)⟩, fun h => by cases h⟩
theorem results_c2 {fn : Func} {p q : Tmp} (h : fn.results = #[.cell p 36, .cell q 38]) (tmps : Array Value) (w : World) (b c : Nat) (x y : Value) (hp : tmps.getD p undef = .pointer (some ⟨b, 0, none⟩)) (hq : tmps.getD q undef = .pointer (some ⟨c, 0, none⟩)) (hx : w.cell? ⟨b, 0, none⟩ = some x) (hy : w.cell? ⟨c, 0, none⟩ = some y) :
    (results fn tmps).run Tryz.prog w = .ok (.tuple #[x, y]) w := by
  have hp' : tmps[p]?.getD undef = .pointer (some ⟨b, 0, none⟩) := by simpa using hp
  have hq' : tmps[q]?.getD undef = .pointer (some ⟨c, 0, none⟩) := by simpa using hq
  simp [results, h, hp', hq', asAddr, loadVar, isAgg, underlying, Tryz.underlying36, Tryz.underlying38, hx, hy]
theorem appendIn36 {F : Fence} {nF : Nat} {ops : Array Oper} {rest : List Oper} {o : Oper} {a : Act} {w0 w : World} {Q : Exit → Act → World → Prop} (hg : o.guard = none) (hab : ∀ f, F.fn f) (s x : Operand) (ho : o.op = .call { callee := .builtin .append, args := #[s, x], argTypes := #[36, 36] }) (B : Nat) (v : Value) (l : List Fe) (hs : a.eval s = v) (h : Bx encF 24 60 w0 w B v l)
    (ax : Option Addr) (cx : Nat) (m : List Fe) (hm : IdF m) (hx : a.eval x = .slice ax m.length cx) (hP : Px encF 24 f0 w ax cx m) (hl : l.length + m.length ≤ 100000) (hK : ∀ v' w', Bx encF 24 60 w0 w' B v' (l ++ m) → Mv w w' v v' → wpListIn F nF Tryz.prog ops Q rest (a.put o.dst v') w') : wpListIn F nF Tryz.prog ops Q (o :: rest) a w := by
  obtain ⟨v', w', hr, hb, hm'⟩ := exec_bx_slM (enc := encF) (k := 24) (d := f0) s x 36 60 Tryz.underlying36 info60 rfl (by decide) (by decide) encF_one ho B v l hs h ax cx m hx hP hm.len hl
  exact wpListIn_execV hg (by rw [ho]; intro c hc; cases hc) (fun f _ => hab f) hr (hK v' w' hb hm')
theorem cell_box {W : World} {b : Nat} {v : Value} {t : TypeId} {f : Nat × Nat} (h : W.heap[b]? = some (.cells #[v] t f)) : W.cell? ⟨b, 0, none⟩ = some v := by simp [World.cell?, h]
def Fr7 (G : Nat) (W : World) (k : Nat) : Prop := k < W.heap.size ∧ k ≠ G ∧ ∃ v, W.heap[G]? = some (.cells #[v] 36 (0, 0)) ∧ v.ownBlock ≠ some k ∧ ∀ j, v.ownBlock = some j → j < W.heap.size
theorem fr7_stay (G B : Nat) (A C : World) (row : Option Nat) (k : Nat) (hg : A.grownBy C row) (hr : Rr B A row) (h : Fr7 G A k) : Fr7 G C k := by
  obtain ⟨h1, h2, v, h3, h4, h5⟩ := h
  refine ⟨Nat.lt_of_lt_of_le h1 hg.size, h2, v, (hg.block G (Array.getElem?_eq_some_iff.1 h3).1 (fun e => ?_)).trans h3, h4, fun j hj => Nat.lt_of_lt_of_le (h5 j hj) hg.size⟩
  obtain ⟨_, o, ho, hc⟩ := hr G e.symm
  rw [h3] at ho
  cases ho
  cases hc
structure I7 (w : World) (K G B : Nat) (X : List Value) (acc : List Fe) (W : World) : Prop where
  b : Below K w W
  bs : Bs7 K X W
  l : ∃ v, W.heap[G]? = some (.cells #[v] 36 (0, 0)) ∧ W.ownsRow B 60 24 v acc.length (acc.flatMap encF)
  bw : B ≤ W.heap.size
structure J7 (w : World) (K G B : Nat) (X : List Value) (xs : List Xt) (W : World) : Prop where
  i : I7 w K G B X (xs.map (·.it.2)) W
  z : ∀ x ∈ xs, x.it.1 = 0
  d : IdF (xs.map (·.it.2))
  n : xs.length ≤ 2000
structure S7 (w : World) (K : Nat) (its : List It) (W : World) : Prop where
  b : Below K w W
  r0 : W.heap[K + 1]? = some (.cells #[.slice none 0 0] 36 (0, 0))
  r1 : ∃ er ev, er ≠ 0 ∧ W.heap[K + 1 + 1]? = some (.cells #[ev] 38 (0, 0)) ∧ EvIs W er ev ∧ ∀ r, sc (its ++ r) [] = (er, [])
theorem blk_stay {A C : World} {B : Nat} {row : Option Nat} (hg : A.grownBy C row) (hr : Rr B A row) {k : Nat} {cs : Array Value} {t : TypeId} {f : Nat × Nat} (h : A.heap[k]? = some (.cells cs t f)) : C.heap[k]? = some (.cells cs t f) := by
  refine (hg.block k (Array.getElem?_eq_some_iff.1 h).1 (fun e => ?_)).trans h
  obtain ⟨_, o, ho, hc⟩ := hr k e.symm
  rw [h] at ho
  cases ho
  cases hc
theorem below_stay {A C w : World} {B K : Nat} {row : Option Nat} (hg : A.grownBy C row) (hr : Rr B A row) (hKB : K ≤ B) (hb : Below K w A) (hKA : K ≤ A.heap.size) : Below K w C := hb.grown hg hKA (fun k e => Nat.le_trans hKB (hr k e).1)
theorem I7.own {w : World} {K G B : Nat} {X : List Value} (hKB : K ≤ B) (acc : List Fe) (A C : World) (row : Option Nat) (h : I7 w K G B X acc A) (hg : A.grownBy C row) (hr : Rr B A row) : I7 w K G B X acc C := by
  obtain ⟨v, h1, h2⟩ := h.l
  refine ⟨below_stay hg hr hKB h.b (Nat.le_trans hKB h.bw), ⟨blk_stay hg hr h.bs.x, blk_stay hg hr h.bs.r0, blk_stay hg hr h.bs.r1⟩, ⟨v, blk_stay hg hr h1, h2.kept hg ?_⟩, Nat.le_trans h.bw hg.size⟩
  cases hv : v.ownBlock with
  | none => exact .inl rfl
  | some j =>
    refine .inr fun e => ?_
    obtain ⟨_, o, ho, hc⟩ := hr j e.symm
    rcases h2.2 with ⟨rfl, _⟩ | ⟨gg, cp, cur, rfl, _, hgb, _⟩
    · cases hv
    · simp [Value.ownBlock] at hv
      subst hv
      rw [hgb] at ho
      cases ho
      cases hc
theorem S7.own {w : World} {K B : Nat} (hKB : K ≤ B) (its : List It) (A C : World) (row : Option Nat) (h : S7 w K its A) (hg : A.grownBy C row) (hr : Rr B A row) (hKA : K ≤ A.heap.size) : S7 w K its C := by
  obtain ⟨er, ev, h1, h2, h3, h4⟩ := h.r1
  exact ⟨below_stay hg hr hKB h.b hKA, blk_stay hg hr h.r0, er, ev, h1, blk_stay hg hr h2, h3.stay hg hr, h4⟩
theorem leave7 (tmps : Array Value) (K D : Nat) (V : World) (x y : Value) (R : Ending → World → Prop) (h4 : tmps.getD 4 undef = .pointer (some ⟨K + 1, 0, none⟩)) (h5 : tmps.getD 5 undef = .pointer (some ⟨K + 1 + 1, 0, none⟩)) (hD : V.heap[D]? = some (.deferred (some []))) (hx : V.heap[K + 1]? = some (.cells #[x] 36 (0, 0))) (hy : V.heap[K + 1 + 1]? = some (.cells #[y] 38 (0, 0))) (hR : R (.returned (.tuple #[x, y])) (V.putObj D (.deferred none))) :
    bodyPostM Fence.wide 3 Tryz.prog Tryz.f7 R .ret { tmps := tmps, defers := [{ target := .collected D, args := #[] }] } V := by
  have hr : Rr 0 V (some D) := fun r e => by cases e; exact ⟨Nat.zero_le _, _, hD, rfl⟩
  exact ⟨by simp, .inl ⟨D, _, rfl, run_takeDeferred hD, ⟨_, results_c2 Tryz.results7 _ _ (K + 1) (K + 1 + 1) x y h4 h5 (cell_box (blk_stay (grownBy_putObj' V D (.deferred none)) hr hx)) (cell_box (blk_stay (grownBy_putObj' V D (.deferred none)) hr hy)), hR⟩⟩⟩
theorem oneO (k : Int) (a : Option Addr) (n c : Nat) : (#[Value.int .i64 k, .slice a n c] : Array Value).all (·.oneCell') = true := all_oneCell_toArray (cs := [Value.int .i64 k, .slice a n c]) (fun v hv => by
  simp only [List.mem_cons, List.not_mem_nil, or_false] at hv
  rcases hv with rfl | rfl <;> rfl)
set_option maxRecDepth 100000 in
set_option maxHeartbeats 4000000 in
theorem flat_any (os : List Oj) (a : Option Addr) (cap : Nat) (R : Nat → Option (List Er)) (hR : Rx os R) (lk : Lks) (hlk : Lk os R lk) (hfo : Fo lk) (w : World) (hO : Ot w a cap os) (hl2 : ∀ o ∈ os, o.zs.length ≤ 20000) (hT : Tb w) (x : List Int) (hx : IdW x) :
    Calls Tryz.prog 7 #[idV x, .slice a os.length cap] w (PostFl (itm lk 102 x []) w) := by
  obtain ⟨n, HN⟩ : ∃ n, Hid (os.length = n) := ⟨_, rfl⟩
  have hnn : n ≤ 60 := by rw [← HN.out]; exact hO.few
  obtain ⟨K, HK⟩ : ∃ K, Hid (w.heap.size = K) := ⟨_, rfl⟩
  have HOT : Hid (∀ W, Below K w W → Ot W a cap os) := fun W hW => hO.below (by rw [HK.out]; exact hW)
  have HTB : Hid (∀ W, Below K w W → Tb W) := fun W hW => hT.below (by rw [HK.out]; exact hW)
  have HRX : Hid (Rx os R) := hR
  have HLK : Hid (Lk os R lk) := hlk
  have HFO : Hid (Fo lk) := hfo
  have HL2 : Hid (∀ o ∈ os, o.zs.length ≤ 20000) := hl2
  have HXI : Hid (IdW x) := hx
  obtain ⟨X, HX⟩ := rw_ hx.1
  have hiX := HX.out.i56
  have HPL : Hid (0 < n → ∃ b off, a = some ⟨b, off, none⟩) := fun h0 => by
    obtain ⟨b, off, e1, _⟩ := hO.px.at_ (by rw [HN.out]; exact h0)
    exact ⟨b, off, e1⟩
  obtain ⟨wa, HWA⟩ : ∃ u, Hid (w.alloc (.cells X.toArray 24) = u) := ⟨_, rfl⟩
  obtain ⟨wb, HWB⟩ : ∃ u, Hid (wa.alloc (.cells #[.slice none 0 0] 36) = u) := ⟨_, rfl⟩
  obtain ⟨wc, HWC⟩ : ∃ u, Hid (wb.alloc (.cells #[.nilIface] 38) = u) := ⟨_, rfl⟩
  obtain ⟨w1, HW1⟩ : ∃ u, Hid (wc.alloc (.map #[] 0) = u) := ⟨_, rfl⟩
  have hsa : wa.heap.size = K + 1 := by rw [← HWA.out, ← HK.out]; simp
  have hsb : wb.heap.size = K + 2 := by rw [← HWB.out]; simp [hsa]
  have hsc : wc.heap.size = K + 3 := by rw [← HWC.out]; simp [hsb]
  have hs1 : w1.heap.size = K + 4 := by rw [← HW1.out]; simp [hsc]
  obtain ⟨g, HGG⟩ : ∃ g, Hid (wc.heap.size = g) := ⟨_, rfl⟩
  have HgK : Hid (g = K + 3) := hid (by rw [← HGG.out]; exact hsc)
  have hbc : Below K w wc := by rw [← HK.out, ← HWC.out, ← HWB.out, ← HWA.out]; exact (((Below.refl _ w).alloc (Nat.le_refl _) _).alloc (by simp) _).alloc (by simp; omega) _
  have HB1 : Hid (Below K w w1) := hid (by rw [← HW1.out]; exact hbc.alloc (by omega) _)
  have HBX : Hid (Bs7 K X w1) := hid (by
    refine ⟨?_, ?_, ?_⟩
    · rw [← HW1.out, Below.heap_alloc _ _ _ (by omega), ← HWC.out, Below.heap_alloc _ _ _ (by omega), ← HWB.out, Below.heap_alloc _ _ _ (by omega), ← HWA.out, ← HK.out]; exact heap_alloc_new w _
    · rw [← HW1.out, Below.heap_alloc _ _ _ (by omega), ← HWC.out, Below.heap_alloc _ _ _ (by omega), ← HWB.out, ← hsa]; exact heap_alloc_new wa _
    · rw [← HW1.out, Below.heap_alloc _ _ _ (by omega), ← HWC.out, show K + 1 + 1 = wb.heap.size by omega]; exact heap_alloc_new wb _)
  have HFI : Hid (FI os R g 0 w1) := hid (by rw [← HGG.out, ← HW1.out]; exact fi_made os R wc)
  have hmk : (Instr.makeMap 52 none).run Tryz.prog wc = .ok (.map (some g)) w1 := by rw [← HGG.out, ← HW1.out]; exact made52 wc
  obtain ⟨zr, HZ⟩ : ∃ zr : Array Value, Hid (#[.int .i64 0, .slice none 0 0] = zr) := ⟨_, rfl⟩
  have hz28 : ∀ w : World, (zeroValue 28).run Tryz.prog w = .ok (.agg zr) w := fun w => by rw [← HZ.out]; exact zero28 w
  have HZ2 : Hid (zr.size = 2) := hid (by rw [← HZ.out]; rfl)
  unfold idV
  rw [HX.out.e, HN.out]
  clear hO hT hR hlk hfo hl2 hx hsa hsb hsc hs1 hbc
  refine (callsIn_wide (n := 3)).1 ?_
  refine callsIn_of_wp_marks Tryz.func7 rfl trivial ?_ rfl
  simp only [Tryz.ntmps7, List.size_toArray, List.length_cons, List.length_nil, Nat.reduceAdd, Nat.reduceSub, Array.replicate_succ, Array.replicate_zero, List.push_toArray, List.append_toArray, List.nil_append, List.cons_append]
  refine wpIn_wide.2 ?_
  go_wp2_with (first | (rw [HWA.out, HWB.out, HWC.out, HK.out]; refine Hid.out ?_) | fail)
  refine hid ?_
  go_wp2_with fail
  go_loopg [15] n (fun gg iv wr => ∃ i : Nat, iv = .int .i64 i ∧ i ≤ n ∧ gg = n - i ∧ Hid (Below K w wr) ∧ Hid (Bs7 K X wr) ∧ Hid (FI os R g i wr))
  case atStart => exact ⟨0, rfl, Nat.zero_le _, rfl, HB1, HBX, HFI⟩
  case round =>
    obtain ⟨i, rfl, hin, hgi, HBr, HXr, HFr⟩ := hrel
    by_cases hlt : i < n
    · have hlti : (i : Int) < (n : Int) := by omega
      obtain ⟨b, off, hae⟩ := HPL.out (by omega)
      subst hae
      have hil : i < os.length := by rw [HN.out]; exact hlt
      obtain ⟨o, HOi⟩ : ∃ o, Hid (os.getD i dO = o) := ⟨_, rfl⟩
      have HOM : Hid (o ∈ os) := hid (by rw [← HOi.out]; exact getD_mem os i dO hil)
      obtain ⟨RO, HRO⟩ : ∃ S : List Value, Hid (encO o = S) := ⟨_, rfl⟩
      have hROl : RO.length = 2 := by rw [← HRO.out]; rfl
      have RR : Hid (wr.rangeAt b (off + i * 2) RO) := hid (by
        obtain ⟨b', off', e1, _, e3⟩ := (HOT.out wr HBr.out).px.at_ (by omega)
        cases e1
        have := e3 i hil
        rw [HOi.out, HRO.out] at this
        exact this)
      have hi28 : (Tryz.prog.info? 28).map (·.size) = some RO.length := by rw [hROl]; exact size28
      have I28 : Hid ((Tryz.prog.info? 28).map (·.size) = some RO.toArray.size) := hid (by rw [List.size_toArray]; exact hi28)
      have E28 : Hid (zr.size = RO.toArray.size) := hid (by rw [HZ2.out, List.size_toArray, hROl])
      have O28 : Hid (RO.toArray.all (·.oneCell') = true) := hid (by rw [← HRO.out]; exact oneO _ _ _ _)
      obtain ⟨H, w2, HN2⟩ := nw 28 zr wr RO
      have HB2 : Hid (Below wr.heap.size wr w2) := hid (by have := HN2.out.below; rw [← HN2.out.h] at this; exact this)
      have R2 : Hid (w2.rangeAt H 0 RO) := hid (range_row HN2.out.box)
      have hKr : Hid (K ≤ wr.heap.size) := hid (by rw [← HK.out]; exact HBr.out.size)
      have HBw2 : Hid (Below K w w2) := hid (HBr.out.trans (HB2.out.mono hKr.out))
      obtain ⟨nf, M, hnf, hM, h3, h4, h5⟩ := (HFr.out.grow HB2.out).m
      have C13 : Hid (Calls Tryz.prog 13 #[.map (some g), .agg RO.toArray] w2 (PostA o (R i) g nf M w2)) := hid (addTree_any o HRO.out (R i) (fun hk => by have := HRX.out.rt i hil (by rw [HOi.out]; exact hk); rw [HOi.out] at this; exact this) (HL2.out o HOM.out) ((HOT.out w2 HBw2.out).isb o HOM.out) g nf M w2 ((HOT.out w2 HBw2.out).sl o HOM.out) (HTB.out w2 HBw2.out) hM (by omega))
      have HSTEP : Hid (∀ e w', PostA o (R i) g nf M w2 e w' → FI os R g (i + 1) w') := fun e w' hP => FI.step hnf hM h3 h4 h5 HOi.out hP
      have HX2 : Hid (Bs7 K X w2) := hid (HXr.out.grow (fun k h1 h2 => HB2.out.block k (Nat.lt_of_le_of_lt h2 (Array.getElem?_eq_some_iff.1 HXr.out.r1).1)))
      clear hnf hM h3 h4 h5 hil
      go_wp2_with (first
        | refine wpList_load_mid rfl 28 _ rfl b (off + i * 2) rfl RO _ RR.out Tryz.underlying28 rfl hi28 ?_
        | (refine wpList_store_row rfl 28 _ _ rfl wr.heap.size RO.toArray rfl rfl 28 zr HN2.out.d I28.out E28.out O28.out ?_; rw [HN2.out.w, HN2.out.h])
        | refine wpList_load_mid rfl 28 _ rfl H 0 rfl RO _ R2.out Tryz.underlying28 rfl hi28 ?_)
      refine C13.out.mono ?_
      rintro ev w3 hP
      have HF3 : Hid (FI os R g (i + 1) w3) := hid (HSTEP.out _ _ hP)
      obtain ⟨⟨v3, rfl⟩, hg3, _⟩ := hP
      have HB3 : Hid (Below K w w3) := hid (HBw2.out.grown hg3 (by have := HBw2.out.size; rw [HK.out] at this; exact this) (fun k e => by cases e; have := HgK.out; omega))
      have HX3 : Hid (Bs7 K X w3) := hid (HX2.out.grow (fun k h1 h2 => hg3.block k (Nat.lt_of_le_of_lt h2 (Array.getElem?_eq_some_iff.1 HX2.out.r1).1) (fun e => by cases e; have := HgK.out; omega)))
      clear hg3
      go_wp2
      go_roundg (n - (i + 1))
      case measure => omega
      case rel => exact ⟨i + 1, by go_num, by omega, rfl, HB3, HX3, HF3⟩
    · have hlti : ¬ (i : Int) < (n : Int) := by omega
      have hie : i = n := by omega
      have HFS : Hid (Fst wr g wr.heap.size lk) := hid (by
        have := HFr.out
        rw [hie, ← HN.out] at this
        exact this.fst HLK.out)
      obtain ⟨wF, HWF⟩ : ∃ u, Hid (wr = u) := ⟨_, rfl⟩
      rw [HWF.out] at HFS HBr HXr ⊢
      obtain ⟨G, HGs⟩ : ∃ G, Hid (wF.heap.size = G) := ⟨_, rfl⟩
      obtain ⟨w4, HW4⟩ : ∃ u, Hid (wF.alloc (.cells #[.slice none 0 0] 36) = u) := ⟨_, rfl⟩
      have HB4 : Hid (Below wF.heap.size wF w4) := hid (by rw [← HW4.out]; exact (Below.refl _ wF).alloc (Nat.le_refl _) _)
      have hs4 : w4.heap.size = G + 1 := by rw [← HW4.out, ← HGs.out]; simp
      have HL4 : Hid (w4.heap[G]? = some (.cells #[.slice none 0 0] 36 (0, 0))) := hid (by rw [← HW4.out, ← HGs.out]; exact heap_alloc_new wF _)
      have hKG : Hid (K + 3 ≤ G) := hid (by have := (Array.getElem?_eq_some_iff.1 HXr.out.r1).1; rw [HGs.out] at this; omega)
      have HBw4 : Hid (Below K w w4) := hid (HBr.out.trans (HB4.out.mono (by have := hKG.out; rw [HGs.out]; omega)))
      have HX4 : Hid (Bs7 K X w4) := hid (HXr.out.grow (fun k h1 h2 => HB4.out.block k (by have := hKG.out; rw [HGs.out]; omega)))
      have RX4 : Hid (w4.rangeAt K 0 X) := hid (range_row HX4.out.x)
      have HSM : Hid (Sm G wF w4) := hid ⟨by omega, fun k hk => HB4.out.block k (by rw [HGs.out]; exact hk)⟩
      rw [HGs.out] at HFS
      obtain ⟨its, HIT⟩ : ∃ l, Hid (itm lk 102 x [] = l) := ⟨_, rfl⟩
      have C14 : Hid (Calls Tryz.prog 14 #[.map (some g), .agg X.toArray, .string ⟨#[]⟩] w4 (PostF G w4 its)) := hid (by
        have := files_any wF g G lk HFS.out HFO.out 102 x HXI.out [] (by decide) (by decide) gf_nil w4 HSM.out
        unfold idV at this
        rw [HX.out.e, HIT.out] at this
        exact this)
      rw [HIT.out]
      clear hie HFr hlt
      go_wp2_with (first
        | (rw [HW4.out, HGs.out]; refine Hid.out ?_)
        | fail)
      refine hid ?_
      go_wp2_with (refine wpList_load_mid rfl 24 _ rfl K 0 rfl X _ RX4.out Tryz.underlying24 rfl hiX ?_)
      refine C14.out.mono ?_
      rintro ev w5 ⟨hb5, gf, lb, rfl, hgfe, hseq⟩
      have HSQ : Hid (SeqF Tryz.prog gf lb encX Fx (·.it) its (fun k => k < G ∨ (w4.heap.size ≤ k ∧ k < w5.heap.size)) w5) := hseq
      have HEN : Hid (∀ (args : Array Value) (w : World), (callFunc gf args).run Tryz.prog w = .ok (.enter gf args) w) := hid (by
        rcases hgfe with rfl | rfl
        · exact enters_of Tryz.func24 (by kernel_rfl) rfl
        · exact enters_of Tryz.func38 (by kernel_rfl) rfl)
      rw [hs4] at hb5
      have HB5 : Hid (Below K w w5) := hid (HBw4.out.trans (hb5.mono (by have := hKG.out; omega)))
      have HX5 : Hid (Bs7 K X w5) := hid (HX4.out.grow (fun k h1 h2 => hb5.block k (by have := hKG.out; omega)))
      have HL5 : Hid (w5.heap[G]? = some (.cells #[.slice none 0 0] 36 (0, 0))) := hid ((hb5.block G (by omega)).trans HL4.out)
      have hG5 : Hid (G < w5.heap.size) := hid (Array.getElem?_eq_some_iff.1 HL5.out).1
      clear hb5 hseq hgfe
      go_wp2_with fail
      refine (wpIn_wide (n := 3)).1 ?_
      obtain ⟨B5, HB5s⟩ : ∃ B, Hid (w5.heap.size = B) := ⟨_, rfl⟩
      have hKB : K ≤ B5 := by have h1 := hKG.out; have h2 := hG5.out; rw [HB5s.out] at h2; omega
      have hGB : G < B5 := by rw [← HB5s.out]; exact hG5.out
      have HK3B : Hid (K + 3 ≤ B5) := hid (by have h1 := hKG.out; omega)
      have HJ0 : Hid (J7 w K G B5 X [] w5) := hid ⟨⟨HB5.out, HX5.out, ⟨_, HL5.out, ⟨rfl, .inl ⟨rfl, rfl⟩⟩⟩, by rw [HB5s.out]; exact Nat.le_refl _⟩, (fun y h => by cases h), (fun y h => by cases h), by decide⟩
      obtain ⟨zf, HZF⟩ : ∃ zr : Array Value, Hid ((encF f0).toArray = zr) := ⟨_, rfl⟩
      have hz60 : ∀ w : World, (zeroValue 60).run Tryz.prog w = .ok (.agg zf) w := fun w => by rw [← HZF.out]; exact zero60 w
      refine range_F (a := _) (gf := gf) (lb := lb) rfl HEN.out (Below.refl _ _) HSQ.out (fun _ => rfl) (fun x A C row hg hr h => h.stay hg hr)
        (J7 w K G B5 X) (fun (xs : List Xt) (V : World) => S7 w K (xs.map fun y : Xt => y.it) V ∧ K ≤ V.heap.size) (Fr7 G) B5 (by rw [HB5s.out]; exact Nat.le_refl _)
        (fun xs A C row h hg hr => ⟨I7.own hKB _ A C row h.i hg (by rw [HB5s.out] at hr; exact hr), h.z, h.d, h.n⟩)
        (fun xs A C row h hg hr => ⟨S7.own hKB _ A C row h.1 hg (by rw [HB5s.out] at hr; exact hr) h.2, Nat.le_trans h.2 hg.size⟩)
        (fun W k h => h.1)
        (fun pre A C k h hg h1 h2 => by
          obtain ⟨v, e1, e2⟩ := h.i.l
          refine ⟨h2, fun e => ?_, v, (hg.block G (Array.getElem?_eq_some_iff.1 e1).1 (by simp)).trans e1, fun e => ?_, fun j hj => Nat.lt_of_lt_of_le (own_lt e2 j hj).2 hg.size⟩
          · have := (Array.getElem?_eq_some_iff.1 e1).1; omega
          · have := (own_lt e2 k e).2; omega)
        (fun A C row k hg hr h => fr7_stay G _ A C row k hg hr h) ?nd HJ0.out
        (fun x V => { tmps := #[.agg X.toArray, .slice a n cap, .pointer (some ⟨K, 0, none⟩), undef, .pointer (some ⟨K + 1, 0, none⟩), .pointer (some ⟨K + 1 + 1, 0, none⟩), .map (some g), undef, u8, .pointer (some ⟨G, 0, none⟩), .pointer (some ⟨V.heap.size, 0, none⟩), x.ev, .map (some g), .slice a n cap, .int .i64 n, .int .i64 i, .bool false, u17, u18, u19, u20, u21, u22, .map (some g), .agg X.toArray, .func (.func gf) #[] lb, .agg (encF x.it.2).toArray, x.ev, undef, undef, undef, undef, undef, undef, undef, undef, undef, undef, undef, undef], defers := [] }) laidF (fun x V => gb_below (laidF_below x V)) ?assign ?body ?done ?stop
      case nd =>
        have h5 := HL5.out
        have hg5 := hG5.out
        rintro k (h | ⟨h1, h2⟩)
        · exact ⟨by omega, by omega, _, h5, by simp [Value.ownBlock], (fun j hj => by cases hj)⟩
        · exact ⟨h2, by omega, _, h5, by simp [Value.ownBlock], (fun j hj => by cases hj)⟩
      case assign =>
        intro l2 x V K' hFx hK'
        dsimp only [encX]
        unfold laidF at hK'
        obtain ⟨RF, HRF⟩ : ∃ R, Hid (encF x.it.2 = R) := ⟨_, rfl⟩
        rw [HRF.out, HZF.out] at hK'
        rw [HRF.out]
        have HFN : Hid (RF.length = 24) := hid (by rw [← HRF.out]; exact encF_len hFx.1.1)
        have I60 : Hid ((Tryz.prog.info? 60).map (·.size) = some RF.toArray.size) := hid (by rw [List.size_toArray, HFN.out]; exact size60)
        have E60 : Hid (zf.size = RF.toArray.size) := hid (by rw [← HZF.out, List.size_toArray, List.size_toArray, HFN.out]; rfl)
        have O60 : Hid (RF.toArray.all (·.oneCell') = true) := hid (by rw [← HRF.out]; exact all_oneCell_toArray (encF_one _))
        have D0 : Hid ((V.alloc (.cells zf 60)).heap[V.heap.size]? = some (.cells zf 60 (0, 0))) := heap_alloc_new V _
        have HKK : Hid _ := hK'
        clear hK'
        gi_wp2_with (refine storeIn_row rfl 60 _ _ rfl V.heap.size RF.toArray rfl rfl 60 zf D0.out I60.out E60.out O60.out ?_)
        exact HKK.out
      case body =>
        rintro l2 pre x V0 V hl2 hl3 hsame hsz hj hFx
        have HJ : Hid (J7 w K G B5 X pre V) := hj
        have HFX : Hid (Fx x V) := hFx
        obtain ⟨acc, HAC⟩ : ∃ l, Hid (pre.map (·.it.2) = l) := ⟨_, rfl⟩
        obtain ⟨vl, hvl, hown⟩ := hj.i.l
        rw [HAC.out] at hown
        obtain ⟨va, vc, hve⟩ := owns_shape hown
        subst hve
        obtain ⟨na, HNA⟩ : ∃ n, Hid (acc.length = n) := ⟨_, rfl⟩
        rw [HNA.out] at hvl hown
        have HLB : Hid (V.heap[G]? = some (.cells #[.slice va na vc] 36 (0, 0))) := hvl
        have HOW : Hid (V.ownsRow B5 60 24 (.slice va na vc) na (acc.flatMap encF)) := hown
        have hna : na ≤ 2000 := by rw [← HNA.out, ← HAC.out, List.length_map]; exact hj.n
        have hcl : V.cell? ⟨G, 0, none⟩ = some (.slice va na vc) := cell_box hvl
        have hfl : V.frozen? ⟨G, 0, none⟩ = false := by simp [World.frozen?, hvl]
        have hc1 : V.cell? ⟨K + 1, 0, none⟩ = some (.slice none 0 0) := cell_box hj.i.bs.r0
        have hf1 : V.frozen? ⟨K + 1, 0, none⟩ = false := by simp [World.frozen?, hj.i.bs.r0]
        have hc2 : V.cell? ⟨K + 1 + 1, 0, none⟩ = some .nilIface := cell_box hj.i.bs.r1
        have hf2 : V.frozen? ⟨K + 1 + 1, 0, none⟩ = false := by simp [World.frozen?, hj.i.bs.r1]
        have HSC : Hid (∀ r, sc ((pre.map fun y : Xt => y.it) ++ [x.it] ++ r) [] = sc (x.it :: r) acc) := hid (fun r => by
          rw [List.append_assoc, sc_zero _ _ _ (fun y hy => by obtain ⟨z, hz, rfl⟩ := List.mem_map.1 hy; exact hj.z z hz) (by rw [List.length_map]; simpa using hj.n), ← HAC.out, List.map_map]
          rfl)
        have STOP : Hid (∀ (er : Int) (ev : Value) (W' : World), er ≠ 0 → (∀ r, sc (x.it :: r) acc = (er, [])) → EvIs V er ev → ev.oneCell' = true → W' = (V.setCell ⟨K + 1, 0, none⟩ (.slice none 0 0)).setCell ⟨K + 1 + 1, 0, none⟩ ev → (S7 w K ((pre.map fun y : Xt => y.it) ++ [x.it]) W' ∧ K ≤ W'.heap.size) ∧ Kt B5 (Fr7 G) V W') := fun er ev W' he hs hev h1 hW => by
          have o' : ∀ k, k ≠ K + 1 → k ≠ K + 1 + 1 → W'.heap[k]? = V.heap[k]? := fun k h1 h2 => by
            rw [hW, Below.heap_setCell _ _ _ k h2, Below.heap_setCell _ _ _ k h1]
          have sz : W'.heap.size = V.heap.size := by rw [hW]; simp [World.setCell]
          have hbV := HJ.out.i.b
          have q0 : W'.heap[K + 1]? = some (.cells #[.slice none 0 0] 36 (0, 0)) := by
            rw [hW, Below.heap_setCell _ _ _ (K + 1) (by simp)]
            exact Boxed.set (.slice none 0 0) (show Boxed V (K + 1) 36 (.slice none 0 0) from HJ.out.i.bs.r0)
          have q1 : W'.heap[K + 1 + 1]? = some (.cells #[ev] 38 (0, 0)) := by
            rw [hW]
            exact Boxed.set ev (show Boxed (V.setCell ⟨K + 1, 0, none⟩ (.slice none 0 0)) (K + 1 + 1) 38 .nilIface from (Below.heap_setCell _ _ _ (K + 1 + 1) (by simp)).trans HJ.out.i.bs.r1)
          have bw := HJ.out.i.bw
          refine ⟨⟨⟨?_, q0, er, ev, he, q1, ?_, fun r => by rw [HSC.out r]; exact hs r⟩, by rw [sz]; omega⟩, by rw [sz]; exact Nat.le_refl _, fun k hk hf => ?_⟩
          · rw [hW]
            exact (hbV.setCell (by show K ≤ K + 1; omega) _).setCell (by show K ≤ K + 1 + 1; omega) _
          · rcases hev with h | ⟨gg, h, hc⟩
            · exact .inl h
            · refine .inr ⟨gg, h, ?_⟩
              have g1 : gg ≠ K + 1 := fun e => by
                rw [e] at hc
                simp [World.cell?, HJ.out.i.bs.r0] at hc
              have g2 : gg ≠ K + 1 + 1 := fun e => by
                rw [e] at hc
                simp [World.cell?, HJ.out.i.bs.r1] at hc
              exact (World.cell?_of_block (a := ⟨gg, 20, none⟩) (o' gg g1 g2)).trans hc
          · have k3 := HK3B.out
            obtain ⟨f1, f2, v, f3, f4, f5⟩ := hf
            exact ⟨⟨by rw [sz]; exact f1, f2, v, by rw [o' G (by have := hKG.out; omega) (by have := hKG.out; omega)]; exact f3, f4, by rw [sz]; exact f5⟩, o' k (by omega) (by omega)⟩
        obtain ⟨RF, HRF⟩ : ∃ R, Hid (encF x.it.2 = R) := ⟨_, rfl⟩
        have HFN : Hid (RF.length = 24) := hid (by rw [← HRF.out]; exact encF_len hFx.1.1)
        have hi60 : (Tryz.prog.info? 60).map (·.size) = some RF.length := by rw [HFN.out]; exact size60
        have RB : Hid (V.rangeAt V0.heap.size 0 RF) := hid (by
          have h1 : V.heap[V0.heap.size]? = some (.cells RF.toArray 60 (0, 0)) := by rw [hsame _ (by omega), laidF_at, HRF.out]
          exact range_row h1)
        rw [HRF.out]
        clear hj hFx hsame hvl hown
        rcases HFX.out.2 with ⟨hz, hev⟩ | ⟨hz, hev⟩
        · rw [hev]
          by_cases h2000 : na = 2000
          · subst h2000
            have HE : Hid (∀ r, sc (x.it :: r) acc = (70, [])) := hid (fun r => by rw [sc, if_pos hz, if_pos (by rw [HNA.out]; exact Nat.le_refl _)])
            clear hz hev
            gi_wp2
            have HS2 := STOP.out 70 _ _ (by decide) HE.out (.inl rfl) rfl rfl
            exact ⟨⟨HS2.1.1, by have := HJ.out.i.bw; omega⟩, HS2.2⟩
          · have hnb : ((na : Int) == 2000) = false := by rw [beq_eq_false_iff_ne]; omega
            have HZ0 : Hid (x.it.1 = 0) := hz
            obtain ⟨fe, HFE⟩ : ∃ f, Hid (x.it.2 = f) := ⟨_, rfl⟩
            have HFI : Hid (IdF [fe]) := hid (fun f hf => by
              have : f = fe := by simpa using hf
              rw [this, ← HFE.out]
              exact HFX.out.1)
            obtain ⟨P1, HP1⟩ : ∃ K, Hid (V.heap.size = K) := ⟨_, rfl⟩
            obtain ⟨u1, HU1⟩ : ∃ u, Hid (V.alloc (.cells RF.toArray 60) = u) := ⟨_, rfl⟩
            have HRE : Hid (encF fe = RF) := hid (by rw [← HFE.out]; exact HRF.out)
            have HBS : Hid ((Instr.buildSlice 36 1 #[(0, .agg RF.toArray)]).run Tryz.prog V = .ok (.slice (some ⟨P1, 0, none⟩) 1 1) u1) := hid (by rw [← HRE.out, ← HP1.out, ← HU1.out, ← HRE.out]; exact run_bs36 fe (HFI.out fe (by simp)).1 V)
            have HB0 : Hid (Bx encF 24 60 V V B5 (.slice va na vc) acc) := hid ⟨Below.refl _ _, by rw [HNA.out]; exact HOW.out, HJ.out.i.bw⟩
            have HB1 : Hid (Bx encF 24 60 V u1 B5 (.slice va na vc) acc) := hid (by rw [← HU1.out]; exact HB0.out.alloc _)
            have HPX : Hid (Px encF 24 f0 u1 (some ⟨P1, 0, none⟩) 1 [fe]) := hid (by rw [← HU1.out, ← HP1.out, ← HRE.out]; exact px_one60 V fe)
            have HMu : Hid (Mv V u1 (.slice va na vc) (.slice va na vc)) := hid (by rw [← HU1.out]; exact Mv.grow _ (World.grownBy_alloc V _ none))
            have HGN : Hid (some G ≠ (Value.slice va na vc).ownBlock) := hid (fun e => by have := (own_lt HOW.out G e.symm).1; omega)
            clear hz hev
            gi_wp2_with (refine loadIn_mid rfl 60 _ rfl V0.heap.size 0 rfl RF _ RB.out Tryz.underlying60 rfl hi60 ?_; refine Hid.out ?_)
            refine hid ?_
            refine wpListIn_execV rfl (by intro c h; cases h) (fun _ _ => trivial) (exec_bS1 36 1 (.tmp 36) rfl _ _ rfl HBS.out) ?_
            refine appendIn36 rfl (fun _ => trivial) (.tmp 35) (.tmp 37) rfl B5 (.slice va na vc) acc rfl HB1.out (some ⟨P1, 0, none⟩) 1 [fe] HFI.out rfl HPX.out (by rw [HNA.out]; simp only [List.length_cons, List.length_nil]; omega) ?_
            intro v2 u2 hb2 hm2
            simp only [Act.put, sL]
            obtain ⟨a2, c2, hv2⟩ := owns_shape hb2.own
            subst hv2
            have HM2 : Hid (Mv V u2 (.slice va na vc) (.slice a2 (acc ++ [fe]).length c2)) := hid (HMu.out.trans hm2)
            have HB2 : Hid (Bx encF 24 60 V u2 B5 (.slice a2 (acc ++ [fe]).length c2) (acc ++ [fe])) := hb2
            obtain ⟨n2, HN2⟩ : ∃ n, Hid (List.length (acc ++ [fe]) = n) := ⟨_, rfl⟩
            rw [HN2.out] at HM2 HB2 ⊢
            have HLG : Hid (u2.heap[G]? = some (.cells #[.slice va na vc] 36 (0, 0))) := hid ((HM2.out.blk G (Array.getElem?_eq_some_iff.1 HLB.out).1 HGN.out).trans HLB.out)
            have hcg : u2.cell? ⟨G, 0, none⟩ = some (.slice va na vc) := cell_box HLG.out
            have hfg : u2.frozen? ⟨G, 0, none⟩ = false := by simp [World.frozen?, HLG.out]
            have FIN : Hid (J7 w K G B5 X (pre ++ [x]) (u2.setCell ⟨G, 0, none⟩ (.slice a2 n2 c2)) ∧ Kt 0 (Fr7 G) V (u2.setCell ⟨G, 0, none⟩ (.slice a2 n2 c2))) := hid (by
              have hj := HJ.out
              have kg := hKG.out
              have g2 : some G ≠ (Value.slice a2 n2 c2).ownBlock := fun e => by have := (own_lt HB2.out.own G e.symm).1; omega
              have sz : (u2.setCell ⟨G, 0, none⟩ (.slice a2 n2 c2)).heap.size = u2.heap.size := by simp [World.setCell]
              have o' : ∀ k, k ≠ G → (u2.setCell ⟨G, 0, none⟩ (.slice a2 n2 c2)).heap[k]? = u2.heap[k]? := fun k hk => Below.heap_setCell _ _ _ k hk
              have lowK : ∀ k, k < B5 → k ≠ G → (u2.setCell ⟨G, 0, none⟩ (.slice a2 n2 c2)).heap[k]? = V.heap[k]? := fun k hk hne => (o' k hne).trans (HM2.out.blk k (Nat.lt_of_lt_of_le hk hj.i.bw) (fun e => by have := (own_lt HOW.out k e.symm).1; omega))
              have k3 := HK3B.out
              have hac : (pre ++ [x]).map (fun y : Xt => y.it.2) = acc ++ [fe] := by rw [List.map_append, HAC.out]; simp [HFE.out]
              have q : (u2.setCell ⟨G, 0, none⟩ (.slice a2 n2 c2)).heap[G]? = some (.cells #[.slice a2 n2 c2] 36 (0, 0)) := Boxed.set (.slice a2 n2 c2) (show Boxed u2 G 36 (.slice va na vc) from HLG.out)
              refine ⟨⟨⟨?_, ⟨(lowK K (by omega) (by omega)).trans hj.i.bs.x, (lowK _ (by omega) (by omega)).trans hj.i.bs.r0, (lowK _ (by omega) (by omega)).trans hj.i.bs.r1⟩, ⟨_, q, ?_⟩, by rw [sz]; exact Nat.le_trans hj.i.bw HM2.out.size⟩, ?_, ?_, ?_⟩, ⟨by rw [sz]; exact HM2.out.size, fun k _ hf => ?_⟩⟩
              · exact ⟨HM2.out.os.trans hj.i.b.os, HM2.out.tape.trans hj.i.b.tape, HM2.out.output.trans hj.i.b.output, by rw [sz]; exact Nat.le_trans hj.i.b.size HM2.out.size, fun k hk => (lowK k (by omega) (by omega)).trans (hj.i.b.block k hk)⟩
              · rw [hac, HN2.out]
                have := HB2.out.own
                rw [HN2.out] at this
                exact this.kept (grownBy_setCell' u2 G _) (by
                  cases hv : (Value.slice a2 n2 c2).ownBlock with
                  | none => exact .inl rfl
                  | some j => exact .inr (by rw [← hv]; exact fun e => g2 e.symm))
              · intro y hy
                rcases List.mem_append.1 hy with h | h
                · exact hj.z y h
                · have : y = x := by simpa using h
                  rw [this]; exact HZ0.out
              · rw [hac]
                intro f hf
                rcases List.mem_append.1 hf with h | h
                · have := hj.d
                  rw [HAC.out] at this
                  exact this f h
                · exact HFI.out f h
              · have e1 : (pre ++ [x]).length = n2 := by rw [← HN2.out, ← hac, List.length_map]
                have e2 : n2 = na + 1 := by rw [← HN2.out, List.length_append, HNA.out]; rfl
                omega
              · obtain ⟨f1, f2, v, f3, f4, f5⟩ := hf
                rw [HLB.out] at f3
                cases f3
                have hk2 : (u2.setCell ⟨G, 0, none⟩ (.slice a2 n2 c2)).heap[k]? = V.heap[k]? := (o' k f2).trans (HM2.out.blk k f1 (fun e => f4 e.symm))
                refine ⟨⟨by rw [sz]; exact Nat.lt_of_lt_of_le f1 HM2.out.size, f2, _, q, fun e => ?_, fun j hj => by rw [sz]; exact (own_lt HB2.out.own j hj).2⟩, hk2⟩
                rcases HM2.out.at_ with h | h
                · exact f4 (by rw [← h]; exact e)
                · have := h k e; omega)
            clear hb2 hm2
            gi_wp2
            exact FIN.out
        · have HE : Hid (∀ r, sc (x.it :: r) acc = (x.it.1, [])) := hid (fun r => by rw [sc, if_neg hz])
          rcases id hev with h | ⟨gg, h, hc⟩
          · have HST := STOP.out x.it.1 x.ev _ hz HE.out hev (by rw [h]; rfl) rfl
            rw [h] at HST ⊢
            have HS2 : Hid _ := HST
            clear HST h hev hz
            gi_wp2
            exact ⟨⟨HS2.out.1.1, by have := HJ.out.i.bw; omega⟩, HS2.out.2⟩
          · have HST := STOP.out x.it.1 x.ev _ hz HE.out hev (by rw [h]; rfl) rfl
            rw [h] at HST ⊢
            have HS2 : Hid _ := HST
            clear HST h hev hz hc
            gi_wp2
            exact ⟨⟨HS2.out.1.1, by have := HJ.out.i.bw; omega⟩, HS2.out.2⟩
      case done =>
        rintro D xs V hD hS hj hFD hV
        obtain ⟨vl, hvl, hown⟩ := hj.i.l
        obtain ⟨fs, HFS2⟩ : ∃ l, Hid (xs.map (fun y : Xt => y.it.2) = l) := ⟨_, rfl⟩
        have hnn2 : xs.length ≤ 2000 := hj.n
        rw [HFS2.out] at hown
        have HSC : Hid (sc its [] = (0, fs)) := hid (by
          have := sc_zero its [] [] (fun y hy => by rw [← hS] at hy; obtain ⟨z, hz, rfl⟩ := List.mem_map.1 hy; exact hj.z z hz) (by rw [← hS, List.length_map]; simpa using hnn2)
          rw [List.append_nil] at this
          rw [this, ← HFS2.out, ← hS, List.map_map]
          rfl)
        have HFD2 : Hid (IdF fs) := hid (by rw [← HFS2.out]; exact hj.d)
        have HFL : Hid (fs.length ≤ 2000) := hid (by rw [← HFS2.out, List.length_map]; exact hnn2)
        have HBX2 : Hid (Bx encF 24 60 V V B5 vl fs) := hid ⟨Below.refl _ _, hown, hj.i.bw⟩
        obtain ⟨ra, rc, hve, hpx, hpb, _⟩ := HBX2.out.px (d := f0) HFD2.out.len
        subst hve
        obtain ⟨nf, HNF⟩ : ∃ n, Hid (fs.length = n) := ⟨_, rfl⟩
        rw [HNF.out] at hvl
        have hcl : V.cell? ⟨G, 0, none⟩ = some (.slice ra nf rc) := cell_box hvl
        have hc1 : V.cell? ⟨K + 1, 0, none⟩ = some (.slice none 0 0) := cell_box hj.i.bs.r0
        have hf1 : V.frozen? ⟨K + 1, 0, none⟩ = false := by simp [World.frozen?, hj.i.bs.r0]
        have hc2 : V.cell? ⟨K + 1 + 1, 0, none⟩ = some .nilIface := cell_box hj.i.bs.r1
        have hf2 : V.frozen? ⟨K + 1 + 1, 0, none⟩ = false := by simp [World.frozen?, hj.i.bs.r1]
        obtain ⟨V2, HV2⟩ : ∃ u, Hid ((V.setCell ⟨K + 1, 0, none⟩ (.slice ra nf rc)).setCell ⟨K + 1 + 1, 0, none⟩ .nilIface = u) := ⟨_, rfl⟩
        have k3 := HK3B.out
        rw [HB5s.out] at hD
        have o' : ∀ k, k ≠ K + 1 → k ≠ K + 1 + 1 → V2.heap[k]? = V.heap[k]? := fun k h1 h2 => by rw [← HV2.out, Below.heap_setCell _ _ _ k h2, Below.heap_setCell _ _ _ k h1]
        have sz : V2.heap.size = V.heap.size := by rw [← HV2.out]; simp [World.setCell]
        have Q0 : Hid (V2.heap[K + 1]? = some (.cells #[.slice ra nf rc] 36 (0, 0))) := hid (by
          rw [← HV2.out, Below.heap_setCell _ _ _ (K + 1) (by simp)]
          exact Boxed.set _ (show Boxed V (K + 1) 36 (.slice none 0 0) from hj.i.bs.r0))
        have Q1 : Hid (V2.heap[K + 1 + 1]? = some (.cells #[.nilIface] 38 (0, 0))) := hid (by
          rw [← HV2.out]
          exact Boxed.set _ (show Boxed (V.setCell ⟨K + 1, 0, none⟩ (.slice ra nf rc)) (K + 1 + 1) 38 .nilIface from (Below.heap_setCell _ _ _ (K + 1 + 1) (by simp)).trans hj.i.bs.r1))
        have QD : Hid (V2.heap[D]? = some (.deferred (some []))) := hid ((o' D (by omega) (by omega)).trans hV)
        have HFIN : Hid (PostFl its w (.returned (.tuple #[.slice ra nf rc, .nilIface])) (V2.putObj D (.deferred none))) := hid (by
          have hb2 : Below K w V2 := by rw [← HV2.out]; exact (hj.i.b.setCell (by show K ≤ K + 1; omega) _).setCell (by show K ≤ K + 1 + 1; omega) _
          have hbw := hj.i.bw
          refine ⟨by rw [HK.out]; exact below_stay (grownBy_putObj' V2 D _) (fun r e => by cases e; exact ⟨hD, _, QD.out, rfl⟩) hKB hb2 (by rw [sz]; omega), 0, fs, HSC.out, .inl ⟨rfl, ra, rc, by rw [HNF.out], ?_, HFD2.out, HFL.out⟩⟩
          · refine ⟨hpx.capl, fun h0 => ?_, hpx.nil⟩
            obtain ⟨b, off, e1, e2, e3⟩ := hpx.at_ h0
            have hbb := (hpb _ e1).1
            have hb5' : B5 ≤ b := hbb
            refine ⟨b, off, e1, by rw [World.putObj_size, sz]; exact e2, fun i hi j u hu => ?_⟩
            have hDb : b ≠ D := fun e => by
              obtain ⟨o, ho, hc⟩ := cell_cells (e3 i hi j u hu)
              have ho' : V.heap[b]? = some o := ho
              rw [e, hV] at ho'
              cases ho'
              cases hc
            rw [World.cell?_of_block (a := ⟨b, off + i * 24 + j, none⟩) ((World.putObj_heap_other hDb).trans (o' b (by omega) (by omega)))]
            exact e3 i hi j u hu)
        clear hj hvl hown hpx hpb hS hFD hV o' sz k3
        go_wp2
        rw [HV2.out, HIT.out]
        exact leave7 _ K D V2 _ _ _ rfl rfl QD.out Q0.out Q1.out HFIN.out
      case stop =>
        rintro D xs V hD hS ⟨hs7, hKV⟩ hFD hV
        obtain ⟨er, ev, he, hr1, hev, hsc⟩ := hs7.r1
        obtain ⟨rr, hrr⟩ := hS
        have HSC : Hid (sc its [] = (er, [])) := hid (by rw [← hrr]; exact hsc rr)
        rw [HB5s.out] at hD
        have hrow : Rr B5 V (some D) := fun r e => by cases e; exact ⟨hD, _, hV, rfl⟩
        have HFIN : Hid (PostFl its w (.returned (.tuple #[.slice none 0 0, ev])) (V.putObj D (.deferred none))) := hid ⟨by rw [HK.out]; exact below_stay (grownBy_putObj' V D _) hrow hKB hs7.b hKV, er, [], HSC.out, .inr ⟨he, ev, rfl, hev.stay (grownBy_putObj' V D _) hrow⟩⟩
        refine wpIn_wide.2 ?_
        have HR0 : Hid (V.heap[K + 1]? = some (.cells #[.slice none 0 0] 36 (0, 0))) := hs7.r0
        have HR1 : Hid (V.heap[K + 1 + 1]? = some (.cells #[ev] 38 (0, 0))) := hr1
        have HVD : Hid (V.heap[D]? = some (.deferred (some []))) := hV
        clear hs7 hr1 hV hrow hev hsc hrr
        go_wp2
        rw [HIT.out]
        exact leave7 _ K D V _ _ _ rfl rfl HVD.out HR0.out HR1.out HFIN.out
end Go.Proofs.YtikmbjfambjmaaaGreatDoor.Gr
namespace Go.Proofs.YtikmbjfambjmaaaGreatDoor.Gr
open Go.RowKit
set_option linter.unusedVariables false
set_option linter.unusedSimpArgs false
theorem run_build35 (o : Oj) (w : World) : (Instr.build 35 #[(0, .int .i64 o.k), (1, .slice o.a o.zs.length o.cap)]).run Tryz.prog w = .ok (.agg (encO o).toArray) w := by
  obtain ⟨k, a, c, zs⟩ := o
  unfold encO
  simp only
  generalize zs.length = n
  kernel_rfl
theorem run_bs29 (o : Oj) (w : World) : (Instr.buildSlice 29 1 #[(0, .agg (encO o).toArray)]).run Tryz.prog w = .ok (.slice (some ⟨w.heap.size, 0, none⟩) 1 1) (w.alloc (.cells (encO o).toArray 35)) := by
  obtain ⟨i, hq, hz, hs, _⟩ := info_parts infoB30
  refine run_buildSlice w 29 35 1 _ (encO o).toArray i _ Tryz.underlying29 hq hz (by rw [hs]; decide) (by rw [hs]; decide) ?_
  rw [hs]
  obtain ⟨k, a, c, zs⟩ := o
  unfold encO
  simp only
  generalize zs.length = n
  kernel_rfl
theorem px_one35 (w : World) (o : Oj) : Px encO 2 dO (w.alloc (.cells (encO o).toArray 35)) (some ⟨w.heap.size, 0, none⟩) 1 [o] :=
  ⟨Nat.le_refl _, fun _ => ⟨w.heap.size, 0, rfl, by simp, fun i hi j v hv => by
    obtain rfl : i = 0 := by simpa using hi
    exact range_row (heap_alloc_new w (.cells (encO o).toArray 35)) j v (by simpa using hv)⟩, fun h => by cases h⟩
structure Qo (b o : Nat) (k : Int) (sa : Option Addr) (sn sc : Nat) (W : World) : Prop where
  c0 : W.cell? ⟨b, o, none⟩ = some (.int .i64 k)
  c1 : W.cell? ⟨b, o + 1, none⟩ = some (.slice sa sn sc)
set_option maxRecDepth 20000 in
set_option maxHeartbeats 4000000 in
theorem objects_any (a : Option Addr) (cap : Nat) (os : List Oj) (w : World) (hP : Px encO 2 dO w a cap os) (hn : os.length ≤ 60) :
    Calls Tryz.prog 4 #[.slice a os.length cap] w fun e w' => ∃ v, e = .returned v ∧ Bx encO 2 35 w w' w.heap.size v os := by
  obtain ⟨G, HG⟩ : ∃ G, Hid (w.heap.size = G) := ⟨_, rfl⟩
  obtain ⟨n, HN⟩ : ∃ n, Hid (os.length = n) := ⟨_, rfl⟩
  have hnn : n ≤ 60 := by rw [← HN.out]; exact hn
  have HPX : Hid (∀ W, Below G w W → Px encO 2 dO W a cap os) := fun W hW => hP.below (by rw [HG.out]; exact hW)
  have HPL : Hid (0 < n → ∃ b off, a = some ⟨b, off, none⟩) := fun h0 => by
    obtain ⟨b, off, e1, _⟩ := hP.at_ (by rw [HN.out]; exact h0)
    exact ⟨b, off, e1⟩
  have HE0 : Hid (Bx encO 2 35 w w G (.slice none 0 0) (os.take 0)) := hid (bx_nil 35 w G (by rw [HG.out]; exact Nat.le_refl _))
  rw [HN.out]
  clear hP hn
  go_enter Tryz.func4, Tryz.ntmps4
  go_wp2_with fail
  go_loopg [3, 4] n (fun g u iv wr => ∃ (i : Nat) (v : Value), v = u ∧ iv = .int .i64 i ∧ g = n - i ∧ i ≤ n ∧ Hid (Bx encO 2 35 w wr G v (os.take i)))
  case atStart => exact ⟨0, _, rfl, rfl, rfl, Nat.zero_le _, HE0⟩
  case round =>
    obtain ⟨i, v, hvu, rfl, hg, hin, HBV⟩ := hrel
    subst hvu
    by_cases hlt : i < n
    · have hlti : (i : Int) < (n : Int) := by omega
      obtain ⟨b, off, hae⟩ := HPL.out (by omega)
      subst hae
      obtain ⟨o, HO⟩ : ∃ o, Hid (os.getD i dO = o) := ⟨_, rfl⟩
      obtain ⟨ol, HOL⟩ : ∃ n, Hid (o.zs.length = n) := ⟨_, rfl⟩
      have HRG : Hid (∀ W, Below G w W → Qo b (off + i * 2) o.k o.a ol o.cap W) := fun W hW => by
        obtain ⟨b', off', e1, _, e3⟩ := (HPX.out W hW).at_ (by rw [HN.out]; omega)
        cases e1
        have := e3 i (by rw [HN.out]; exact hlt)
        rw [HO.out] at this
        have h2 := cells_O this
        rw [HOL.out] at h2
        exact ⟨h2.1, h2.2⟩
      have HBVd : Hid (Bx encO 2 35 w wr.drew G v (os.take i)) := hid (HBV.out.carry (below_drewH (Below.refl _ _) 1))
      have hSd : Qo b (off + i * 2) o.k o.a ol o.cap wr.drew := HRG.out _ HBVd.out.below
      have HBU : Hid (∀ W : World, (Instr.build 35 #[(0, .int .i64 o.k), (1, .slice o.a ol o.cap)]).run Tryz.prog W = .ok (.agg (encO o).toArray) W) := fun W => by rw [← HOL.out]; exact run_build35 o W
      go_wp2_with fail
      refine wp_region_held_drew (S := Qo b (off + i * 2) o.k o.a ol o.cap) (by kernel_rfl) hSd (fun hHeld => ?_)
      clear hSd
      generalize wr.drew = u0 at hHeld HBVd ⊢
      refine takeY (i := 0) (v := ?_) hHeld ?_ ?_
      rotate_left
      · rintro w' ⟨c0, c1⟩; go_simp; rfl
      try simp only [Act.put, sL]
      refine takeY (i := 1) (v := ?_) hHeld ?_ ?_
      rotate_left
      · rintro w' ⟨c0, c1⟩; go_simp; rfl
      try simp only [Act.put, sL]
      refine takeY (i := 2) (v := ?_) hHeld ?_ ?_
      rotate_left
      · rintro w' ⟨c0, c1⟩; go_simp; rfl
      try simp only [Act.put, sL]
      refine takeY (i := 3) (v := ?_) hHeld ?_ ?_
      rotate_left
      · rintro w' ⟨c0, c1⟩; go_simp; rfl
      try simp only [Act.put, sL]
      refine takeY (i := 4) (v := ?_) hHeld ?_ ?_
      rotate_left
      · rintro w' ⟨c0, c1⟩; go_simp; rfl
      try simp only [Act.put, sL]
      refine takeY (i := 5) (v := ?_) hHeld ?_ ?_
      rotate_left
      · rintro w' ⟨c0, c1⟩; go_simp; rfl
      try simp only [Act.put, sL]
      refine takeY (i := 6) (v := ?_) hHeld ?_ ?_
      rotate_left
      · rintro w' ⟨c0, c1⟩; go_simp; rfl
      try simp only [Act.put, sL]
      refine takeY (i := 7) (v := ?_) hHeld ?_ ?_
      rotate_left
      · rintro w' ⟨c0, c1⟩; go_simp; rfl
      try simp only [Act.put, sL]
      refine takeY (i := 8) (v := ?_) hHeld ?_ ?_
      rotate_left
      · rintro w' ⟨c0, c1⟩; go_simp; rfl
      try simp only [Act.put, sL]
      refine takeY (i := 9) (v := ?_) hHeld ?_ ?_
      rotate_left
      · rintro w' ⟨c0, c1⟩; go_simp; rfl
      try simp only [Act.put, sL]
      refine takeY (i := 10) (v := ?_) hHeld ?_ ?_
      rotate_left
      · rintro w' ⟨c0, c1⟩; go_simp; rfl
      try simp only [Act.put, sL]
      refine takeL (i := 11) (v := .agg (encO o).toArray) rfl (by kernel_rfl) (by kernel_rfl) (by kernel_rfl) (fun _ _ _ h => h) (Or.inl ⟨by rfl, fun w' h => exec_bd2 35 _ _ rfl (.int .i64 o.k) (.slice o.a ol o.cap) _ rfl rfl (HBU.out w')⟩) hHeld ?_
      try simp only [Act.put, sL]
      obtain ⟨K, HK⟩ : ∃ K, Hid (u0.heap.size = K) := ⟨_, rfl⟩
      obtain ⟨u1, HU1⟩ : ∃ u, Hid (u0.alloc (.cells (encO o).toArray 35) = u) := ⟨_, rfl⟩
      have HBS : Hid ((Instr.buildSlice 29 1 #[(0, .agg (encO o).toArray)]).run Tryz.prog u0 = .ok (.slice (some ⟨K, 0, none⟩) 1 1) u1) := hid (by rw [← HK.out, ← HU1.out]; exact run_bs29 o u0)
      have HB1 : Hid (Bx encO 2 35 w u1 G v (os.take i)) := hid (by rw [← HU1.out]; exact HBVd.out.alloc _)
      have HP1 : Hid (Px encO 2 dO u1 (some ⟨K, 0, none⟩) 1 [o]) := hid (by rw [← HU1.out, ← HK.out]; exact px_one35 u0 o)
      have HS1 : Hid (Qo b (off + i * 2) o.k o.a ol o.cap u1) := hid (HRG.out _ HB1.out.below)
      refine wpAnyH_ready (rs := [12]) (by kernel_rfl) (by simp) ?_
      refine consL rfl (fun KK hKK => ?_) AllReadyH.nil
      refine step_exec (by rfl) (.slice (some ⟨K, 0, none⟩) 1 1) (w' := u1) (exec_bS1 29 1 (.tmp 22) (by rfl) _ _ (by rfl) HBS.out) ?_
      refine hKK.out _ _ HS1.out (fun hHeld2 => ?_)
      clear hKK KK hHeld
      try simp only [Act.put, sL]
      refine wpAnyH_ready (rs := [13]) (by kernel_rfl) (by simp) ?_
      refine consL rfl (fun KK hKK => ?_) AllReadyH.nil
      refine step_app24 (by rfl) (.tmp 11) (.tmp 23) (by rfl) G v (os.take i) (by rfl) HB1.out (some ⟨K, 0, none⟩) 1 [o] (by rfl) HP1.out (by rw [List.length_take, HN.out]; simp only [List.length_cons, List.length_nil]; omega) ?_
      intro v2 u2 hb2
      have HB2 : Hid (Bx encO 2 35 w u2 G v2 (os.take (i + 1))) := hid (by rw [take_snocG dO os i (by rw [HN.out]; exact hlt), HO.out]; exact hb2)
      refine hKK.out _ _ (HRG.out _ hb2.below) (fun hHeld => ?_)
      clear hKK KK hHeld2 hb2
      try simp only [Act.put, sL]
      refine takeY (i := 14) (v := ?_) hHeld ?_ ?_
      rotate_left
      · rintro w' ⟨c0, c1⟩; go_simp; rfl
      try simp only [Act.put, sL]
      refine wpAnyH_done (by kernel_rfl) ?_ _
      clear hHeld
      go_wp2
      go_roundg (n - (i + 1))
      case measure => omega
      case rel => exact ⟨i + 1, v2, rfl, by go_num, rfl, by omega, HB2⟩
    · have hlti : ¬ (i : Int) < (n : Int) := by omega
      have HBQ : Hid (Bx encO 2 35 w wr G v os) := hid (by have := HBV.out; rw [List.take_of_length_le (by rw [HN.out]; omega)] at this; exact this)
      go_wp2
      go_ret
      exact ⟨_, rfl, by rw [HG.out]; exact HBQ.out⟩
end Go.Proofs.YtikmbjfambjmaaaGreatDoor.Gr
