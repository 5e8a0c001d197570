import Derived.Test.YtikmbjfambjmaaaGreatDoorMf12
import Derived.Test.YtikmbjfambjmaaaGreatDoorMf10
namespace Go.Proofs.YtikmbjfambjmaaaGreatDoor
open Go.RowKit
variable [Inhabited Er] [Inhabited En]
set_option linter.unusedVariables false
set_option linter.unusedSectionVars false
set_option linter.unusedSimpArgs false
theorem Be.pe {w0 w : World} {B : Nat} {a : Option Addr} {n cap : Nat} {es : List Er} (h : Be w0 w B (.slice a n cap) es) (hw : ∀ x ∈ es, x.id.length = 20) (hn : es.length = n) : Pe w a cap es ∧ ∀ p : Addr, a = some p → B ≤ p.block ∧ p.block < w.heap.size := by
  obtain ⟨hl, ⟨h1, h2⟩ | ⟨g, c, cur, h1, hB, h3, h4, h5, h6, h7⟩⟩ := h.own
  · cases h1
    exact ⟨⟨by omega, fun h0 => by omega, fun _ => rfl⟩, fun p hp => by cases hp⟩
  · cases h1
    have hlt := lt_of_some h3
    refine ⟨⟨h4, fun h0 => ⟨g, 0, rfl, hlt, fun i hi j v hv => ?_⟩, fun h => by cases h⟩, fun p hp => by cases hp; exact ⟨hB, hlt⟩⟩
    have hj : j < 22 := by
      obtain ⟨hj, _⟩ := List.getElem?_eq_some_iff.1 hv
      have hm : es.getD i default ∈ es := by
        rw [List.getD_eq_getElem?_getD, List.getElem?_eq_getElem hi]
        exact List.getElem_mem _
      rw [erV_len _ (hw _ hm)] at hj
      exact hj
    have hf := fE_at es hw i j hi hj
    rw [hv] at hf
    have hlt2 := (List.getElem?_eq_some_iff.1 hf).1
    have := h.own.cellAt (i * 22 + j) (by rw [fE_len es hw] at hlt2; omega)
    rw [Nat.zero_add, this, hf]
theorem Pe.take {w : World} {a : Option Addr} {cap : Nat} {es : List Er} (h : Pe w a cap es) (j : Nat) (hj : j ≤ es.length) : Pe w a cap (es.take j) :=
  ⟨by rw [List.length_take]; have := h.capl; omega, fun h0 => by
    rw [List.length_take] at h0
    obtain ⟨b, off, e1, e2, e3⟩ := h.at_ (by omega)
    refine ⟨b, off, e1, e2, fun i hi => ?_⟩
    rw [List.length_take] at hi
    have := e3 i (by omega)
    rw [show (es.take j).getD i default = es.getD i default by rw [List.getD_eq_getElem?_getD, List.getD_eq_getElem?_getD, List.getElem?_take, if_pos (by omega)]]
    exact this, h.nil⟩
def adr (a : Option Addr) (cap j : Nat) : Option Addr := if cap = j then a else a.map (·.add (j * 22))
theorem Pe.drop {w : World} {a : Option Addr} {cap : Nat} {es : List Er} (h : Pe w a cap es) (j : Nat) (hj : j ≤ es.length) : Pe w (adr a cap j) (cap - j) (es.drop j) :=
  ⟨by rw [List.length_drop]; have := h.capl; omega, fun h0 => by
    rw [List.length_drop] at h0
    obtain ⟨b, off, e1, e2, e3⟩ := h.at_ (by omega)
    subst e1
    have hc := h.capl
    refine ⟨b, off + j * 22, by unfold adr; rw [if_neg (by omega), Option.map_some, addr_add], e2, fun i hi => ?_⟩
    rw [List.length_drop] at hi
    have := e3 (j + i) (by omega)
    rw [show (es.drop j).getD i default = es.getD (j + i) default by rw [List.getD_eq_getElem?_getD, List.getD_eq_getElem?_getD, List.getElem?_drop]]
    rw [show off + j * 22 + i * 22 = off + (j + i) * 22 by rw [Nat.add_mul]; omega]
    exact this, fun h2 => by
    have : a = none := by
      unfold adr at h2
      split at h2
      · exact h2
      · cases a with
        | none => rfl
        | some p => cases h2
    have := h.nil this
    omega⟩
theorem elem52 : Tryz.prog.underlying 86 = some (.slice (Tryz.prog.elem 86)) := by kernel_rfl
theorem sizeE (w : World) : (sizeOf (Tryz.prog.elem 86)).run Tryz.prog w = .ok 22 w := by kernel_rfl
theorem slE_to (a : Option Addr) (n cap j : Nat) (h : j ≤ cap) (w : World) : (Instr.slice 86 (.slice a n cap) none (some (.int .i64 j)) none).run Tryz.prog w = .ok (.slice a j cap) w := by
  rw [run_slice_h w 86 a n cap elem52 .i64 j (by omega) (by omega), sizeE, Result.andThen_ok, sliced]
  congr 2
  split
  · rfl
  · cases a with
    | none => rfl
    | some p => obtain ⟨b, o, f⟩ := p; simp [Addr.add]
theorem slE_from (a : Option Addr) (n cap j : Nat) (h : j ≤ n) (w : World) : (Instr.slice 86 (.slice a n cap) (some (.int .i64 j)) none none).run Tryz.prog w = .ok (.slice (adr a cap j) (n - j) (cap - j)) w := by
  rw [run_slice_l w 86 a n cap elem52 .i64 j (by omega) (by omega), sizeE, Result.andThen_ok, sliced]
  rfl
structure QK (b1 o1 : Nat) (R1 : List Value) (b2 o2 : Nat) (R2 : List Value) (W : World) : Prop where
  r1 : W.rangeAt b1 o1 R1
  r2 : W.rangeAt b2 o2 R2
theorem range_below {W W' : World} {b o : Nat} {R : List Value} (h : W.rangeAt b o R) (hb : Below W.heap.size W W') (hl : b < W.heap.size) : W'.rangeAt b o R :=
  fun j v hv => (hb.cell (p := ⟨b, o + j, none⟩) hl).trans (h j v hv)
theorem QK.below {b1 o1 b2 o2 : Nat} {R1 R2 : List Value} {W W' : World} (h : QK b1 o1 R1 b2 o2 R2 W) (hb : Below W.heap.size W W') (h1 : b1 < W.heap.size) (h2 : b2 < W.heap.size) : QK b1 o1 R1 b2 o2 R2 W' :=
  ⟨range_below h.r1 hb h1, range_below h.r2 hb h2⟩
theorem enter96 (v : Value) (w : World) : (callFunc 80 [v].toArray).run Tryz.prog w = .ok (.enter 80 [v].toArray) w := by kernel_rfl
theorem step_callg {P : Program} {ops : Array Oper} {o : Oper} {a : Act} {w : World} {K : Act → World → Prop} {Q : Exit → Act → World → Prop} {E : Prop} (hw : Region.wanted o (yielded ops a.tmps) = true) (f : FuncId) (args : List Operand) (ts : Array TypeId) (vs : List Value) (R : Ending → World → Prop)
    (ho : o.op = .call { callee := .value (.func f), args := args.toArray, argTypes := ts }) (hx : args.map a.eval = vs) (hent : ∀ w : World, (callFunc f vs.toArray).run P w = .ok (.enter f vs.toArray) w)
    (hc : Calls P f vs.toArray w R) (h : ∀ e w', R e w' → ∃ r, e = .returned r ∧ K (a.put o.dst r) w') :
    if Region.wanted o (yielded ops a.tmps) = true then Oper.wp P o a w K Q else E := by
  rw [if_pos hw]
  unfold Oper.wp
  simp only [execOp, ho, resolve, invoke, go_sem, List.map_toArray, hx, hent]
  simp [go_sem, hent, Oper.upon_enter]
  refine hc.mono ?_
  intro e w' hr
  obtain ⟨r, rfl, hk⟩ := h e w' hr
  exact hk
theorem base_mono {w : World} {B B' : Nat} {e : TypeId} {s : Nat} {v : Value} {n : Nat} {xs : List Value} (h : w.ownsRow B' e s v n xs) (hB : B ≤ B') : w.ownsRow B e s v n xs := by
  obtain ⟨hl, h1 | ⟨g, c, cur, h1, h2, h3⟩⟩ := h
  · exact ⟨hl, .inl h1⟩
  · exact ⟨hl, .inr ⟨g, c, cur, h1, Nat.le_trans hB h2, h3⟩⟩
set_option maxRecDepth 20000 in
theorem run_build103 (x : Er) (h : x.id.length = 20) (w : World) : (Instr.buildSlice 86 1 #[(0, .agg (erV x).toArray)]).run Tryz.prog w = .ok (.slice (some ⟨w.heap.size, 0, none⟩) 1 1) (w.alloc (.cells (erV x).toArray 90)) := by
  obtain ⟨i, hq, hz, hs, _⟩ := info_parts Tryz.info90
  refine run_buildSlice w 86 90 1 _ (erV x).toArray i _ Tryz.underlying86 hq hz (by rw [hs]; decide) (by rw [hs]; decide) ?_
  rw [hs]
  obtain ⟨a0, a1, a2, a3, a4, a5, a6, a7, a8, a9, a10, a11, a12, a13, a14, a15, a16, a17, a18, a19, e⟩ := list20 x.id h
  unfold erV
  rw [e]
  kernel_rfl
theorem pe_one (w : World) (x : Er) : Pe (w.alloc (.cells (erV x).toArray 90)) (some ⟨w.heap.size, 0, none⟩) 1 [x] :=
  ⟨by simp, fun _ => ⟨w.heap.size, 0, rfl, by simp, fun i hi => by
    have : i = 0 := by simpa using hi
    subst this
    simpa using range_row (heap_alloc_new w (.cells (erV x).toArray 90))⟩, fun h => by cases h⟩
theorem wpList_buildS {P : Program} {ops : Array Oper} {rest : List Oper} {o : Oper} {a : Act} {w w' : World} {Q : Exit → Act → World → Prop} (hg : o.guard = none) (t len : Nat) (x : Operand) (ho : o.op = .buildSlice t len #[(0, x)]) (u v : Value) (hx : a.eval x = u)
    (hr : (Instr.buildSlice t len #[(0, u)]).run P w = .ok v w')
    (h : wpList P ops Q rest (a.put o.dst v) w') : wpList P ops Q (o :: rest) a w := by
  refine wpList_plain hg fun K hK => ?_
  unfold Oper.wp execOp
  simp [ho, hx, hr, Result.andThen]
  exact hK _ _ h
set_option maxRecDepth 20000 in
set_option maxHeartbeats 8000000 in
theorem sorted_any (a : Option Addr) (cap : Nat) (es : List Er) (hwf : ∀ x ∈ es, x.id.length = 20) (hnm : ∀ x ∈ es, x.name.length ≤ 1000000) (hn : es.length ≤ 1000) (w : World) (hP : Pe w a cap es) :
    Calls Tryz.prog 62 #[.slice a es.length cap] w fun e w' => Below w.heap.size w w' ∧ ∃ a' cap', e = .returned (.slice a' es.length cap') ∧ Pe w' a' cap' (srtE es) := by
  obtain ⟨n, HN⟩ : ∃ n, Hid (es.length = n) := ⟨_, rfl⟩
  obtain ⟨G, HG⟩ : ∃ G, Hid (w.heap.size = G) := ⟨_, rfl⟩
  have hnn : n ≤ 1000 := by rw [← HN.out]; exact hn
  have HPA : Hid (∀ W, Below G w W → Pe W a cap es) := fun W hW => hP.below (by rw [HG.out]; exact hW)
  have HPL : Hid (0 < n → ∃ b off, a = some ⟨b, off, none⟩ ∧ b < G) := fun h0 => by
    obtain ⟨b, off, e1, e2, _⟩ := hP.at_ (by rw [HN.out]; exact h0)
    exact ⟨b, off, e1, by rw [← HG.out]; exact e2⟩
  have HWF : Hid (∀ x ∈ es, x.id.length = 20) := hwf
  have HNM : Hid (∀ x ∈ es, x.name.length ≤ 1000000) := hnm
  have HMEM : Hid (∀ i, ∀ y ∈ srtE (es.take i), y ∈ es) := fun i y hy => List.mem_of_mem_take ((srtE_perm _).subset hy)
  have HSL : Hid (∀ i, i ≤ n → (srtE (es.take i)).length = i) := fun i hi => by rw [(srtE_perm _).length_eq, List.length_take, HN.out]; omega
  have HE0 : Hid (Be w w G (.slice none 0 0) (srtE (es.take 0))) := hid (be_nil w G (by rw [HG.out]; exact Nat.le_refl _))
  rw [HN.out]
  clear hP hwf hnm
  go_enter Tryz.func62, Tryz.ntmps62
  go_wp2_with fail
  go_loopg [3, 4] n (fun g u iv wr => ∃ (i : Nat) (v : Value), v = u ∧ i ≤ n ∧ g = n - i ∧ iv = .int .i64 i ∧ Hid (Be w wr G v (srtE (es.take i))))
  case atStart => exact ⟨0, _, rfl, Nat.zero_le _, rfl, rfl, HE0⟩
  case round =>
    obtain ⟨i, v, hv, hi, hk, rfl, HBE⟩ := hrel
    subst hv
    by_cases hlt : i < n
    · have hlti : (i : Int) < (n : Int) := by omega
      obtain ⟨L, HL⟩ : ∃ L, Hid (srtE (es.take i) = L) := ⟨_, rfl⟩
      have HLL : Hid (L.length = i) := hid (by rw [← HL.out]; exact HSL.out i hi)
      have HLW : Hid (∀ y ∈ L, y.id.length = 20) := hid (by rw [← HL.out]; exact fun y hy => HWF.out y (HMEM.out i y hy))
      have HLN : Hid (∀ y ∈ L, y.name.length ≤ 1000000) := hid (by rw [← HL.out]; exact fun y hy => HNM.out y (HMEM.out i y hy))
      rw [HL.out] at HBE
      obtain ⟨va, vc, hv⟩ : ∃ va vc, v = .slice va i vc := by
        have ho := HBE.out.own
        rw [HLL.out] at ho
        exact owns_shape ho
      subst hv
      have HPV : Hid (∀ W, Be w W G (.slice va i vc) L → Pe W va vc L) := fun W hW => (hW.pe HLW.out HLL.out).1
      obtain ⟨b, off, hae, hbG⟩ := HPL.out (by omega)
      subst hae
      obtain ⟨x, HXX⟩ : ∃ x, Hid (es.getD i default = x) := ⟨_, rfl⟩
      have hxm : x ∈ es := by
        rw [← HXX.out, List.getD_eq_getElem?_getD, List.getElem?_eq_getElem (by rw [HN.out]; exact hlt)]
        exact List.getElem_mem _
      have HX20 : Hid (x.id.length = 20) := HWF.out x hxm
      have HXN : Hid (x.name.length ≤ 1000000) := HNM.out x hxm
      have HX1 : Hid (∀ y ∈ [x], y.id.length = 20) := fun y hy => by
        have : y = x := by simpa using hy
        rw [this]; exact HX20.out
      obtain ⟨R, HR⟩ : ∃ R : List Value, Hid (erV x = R) := ⟨_, rfl⟩
      have HRR : Hid (∀ W, Below G w W → W.rangeAt b (off + i * 22) R) := fun W hW => by
        obtain ⟨b', off', e1, e2, e3⟩ := (HPA.out W hW).at_ (by rw [HN.out]; omega)
        cases e1
        rw [← HR.out, ← HXX.out]
        exact e3 i (by rw [HN.out]; exact hlt)
      have hi103 : (Tryz.prog.info? 90).map (·.size) = some R.length := by rw [← HR.out, erV_len x HX20.out]; exact size103
      obtain ⟨KX, HKX⟩ : ∃ S : ByteArray, Hid (⟨(keyB x).toArray⟩ = S) := ⟨_, rfl⟩
      have CX : Hid (∀ W, Calls Tryz.prog 80 #[.agg R.toArray] W fun r w' => r = .returned (.string KX) ∧ Grew W w') := fun W => by
        rw [← HKX.out, ← HR.out]; exact key_any x HXN.out HX20.out W
      clear hxm
      go_wp2_with fail
      go_loopg [5] i (fun g jv wq => ∃ j : Nat, j ≤ i ∧ g = i - j ∧ jv = .int .i64 j ∧ Hid (Be w wq G (.slice va i vc) L) ∧ Hid (∀ k, k < j → ¬ keyB x < keyB (L.getD k default)))
      case atStart => exact ⟨0, Nat.zero_le _, rfl, rfl, HBE, hid (fun k hk => absurd hk (Nat.not_lt_zero _))⟩
      case round =>
        obtain ⟨j, hj, hkj, rfl, HBQ, HLE⟩ := hrel
        by_cases hji : j < i
        · have hjii : (j : Int) < (i : Int) := by omega
          obtain ⟨b1, off1, hva, hb1⟩ : ∃ b1 off1, va = some ⟨b1, off1, none⟩ ∧ b1 < wr.heap.size := by
            obtain ⟨b1, off1, e1, e2, _⟩ := (HPV.out _ HBQ.out).at_ (by rw [HLL.out]; omega)
            exact ⟨b1, off1, e1, e2⟩
          subst hva
          obtain ⟨y, HY⟩ : ∃ y, Hid (L.getD j default = y) := ⟨_, rfl⟩
          have hym : y ∈ L := by
            rw [← HY.out, List.getD_eq_getElem?_getD, List.getElem?_eq_getElem (by rw [HLL.out]; exact hji)]
            exact List.getElem_mem _
          have HY20 : Hid (y.id.length = 20) := HLW.out y hym
          have HYN : Hid (y.name.length ≤ 1000000) := HLN.out y hym
          obtain ⟨R1, HR1⟩ : ∃ R : List Value, Hid (erV y = R) := ⟨_, rfl⟩
          have hi1 : (Tryz.prog.info? 90).map (·.size) = some R1.length := by rw [← HR1.out, erV_len y HY20.out]; exact size103
          obtain ⟨KY, HKY⟩ : ∃ S : ByteArray, Hid (⟨(keyB y).toArray⟩ = S) := ⟨_, rfl⟩
          have CY : Hid (∀ W, Calls Tryz.prog 80 #[.agg R1.toArray] W fun r w' => r = .returned (.string KY) ∧ Grew W w') := fun W => by
            rw [← HKY.out, ← HR1.out]; exact key_any y HYN.out HY20.out W
          have HQ0 : Hid (QK b1 (off1 + j * 22) R1 b (off + i * 22) R wr.drew) := hid (by
            refine ⟨?_, HRR.out _ (below_drewH HBQ.out.below 1)⟩
            obtain ⟨b', off', e1, e2, e3⟩ := (HPV.out _ HBQ.out).at_ (by rw [HLL.out]; omega)
            cases e1
            rw [← HR1.out, ← HY.out]
            exact e3 j (by rw [HLL.out]; exact hji))
          have HBQ0 : Hid (Be w wr.drew G (.slice (some ⟨b1, off1, none⟩) i vc) L) := hid (HBQ.out.carry (below_drewH (Below.refl _ _) 1))
          have hbs : b1 < wr.drew.heap.size ∧ b < wr.drew.heap.size := ⟨hb1, Nat.lt_of_lt_of_le hbG HBQ.out.le⟩
          clear hym
          go_wp2_with fail
          refine wp_region_held_drew (S := QK b1 (off1 + j * 22) R1 b (off + i * 22) R) (by kernel_rfl) (by exact HQ0.out) (fun hHeld => ?_)
          generalize wr.drew = u0 at hHeld HQ0 HBQ0 hbs ⊢
          clear HQ0
          refine takeL (i := 0) (v := ?_) rfl (by kernel_rfl) (by kernel_rfl) (by kernel_rfl) (fun _ _ _ h => h) (Or.inl ⟨by rfl, ?_⟩) hHeld ?_
          rotate_left
          · rintro w' ⟨r1, r2⟩; go_simp; rfl
          try simp only [Act.put, List.setIfInBounds_toArray, List.set_cons_zero, List.set_cons_succ]
          refine takeL (i := 1) (v := ?_) rfl (by kernel_rfl) (by kernel_rfl) (by kernel_rfl) (fun _ _ _ h => h) (Or.inl ⟨by rfl, ?_⟩) hHeld ?_
          rotate_left
          · rintro w' ⟨r1, r2⟩; go_simp; rfl
          try simp only [Act.put, List.setIfInBounds_toArray, List.set_cons_zero, List.set_cons_succ]
          refine takeL (i := 2) (v := ?_) rfl (by kernel_rfl) (by kernel_rfl) (by kernel_rfl) (fun _ _ _ h => h) (Or.inl ⟨by rfl, ?_⟩) hHeld ?_
          rotate_left
          · rintro w' ⟨r1, r2⟩; go_simp; rfl
          try simp only [Act.put, List.setIfInBounds_toArray, List.set_cons_zero, List.set_cons_succ]
          refine takeL (i := 3) (v := ?_) rfl (by kernel_rfl) (by kernel_rfl) (by kernel_rfl) (fun _ _ _ h => h) (Or.inl ⟨by rfl, ?_⟩) hHeld ?_
          rotate_left
          · rintro w' ⟨r1, r2⟩; go_simp; rfl
          try simp only [Act.put, List.setIfInBounds_toArray, List.set_cons_zero, List.set_cons_succ]
          refine takeL (i := 4) (v := ?_) rfl (by kernel_rfl) (by kernel_rfl) (by kernel_rfl) (fun _ _ _ h => h) (Or.inl ⟨by rfl, ?_⟩) hHeld ?_
          rotate_left
          · rintro w' ⟨r1, r2⟩; go_simp; rfl
          try simp only [Act.put, List.setIfInBounds_toArray, List.set_cons_zero, List.set_cons_succ]
          refine takeL (i := 5) (v := ?_) rfl (by kernel_rfl) (by kernel_rfl) (by kernel_rfl) (fun _ _ _ h => h) (Or.inl ⟨by rfl, ?_⟩) hHeld ?_
          rotate_left
          · rintro w' ⟨r1, r2⟩; go_simp; rfl
          try simp only [Act.put, List.setIfInBounds_toArray, List.set_cons_zero, List.set_cons_succ]
          refine takeL (i := 6) (v := ?_) rfl (by kernel_rfl) (by kernel_rfl) (by kernel_rfl) (fun _ _ _ h => h) (Or.inl ⟨by rfl, ?_⟩) hHeld ?_
          rotate_left
          · rintro w' ⟨r1, r2⟩; go_simp; rfl
          try simp only [Act.put, List.setIfInBounds_toArray, List.set_cons_zero, List.set_cons_succ]
          refine takeL (i := 7) (v := ?_) rfl (by kernel_rfl) (by kernel_rfl) (by kernel_rfl) (fun _ _ _ h => h) (Or.inl ⟨by rfl, ?_⟩) hHeld ?_
          rotate_left
          · rintro w' ⟨r1, r2⟩; go_simp; rfl
          try simp only [Act.put, List.setIfInBounds_toArray, List.set_cons_zero, List.set_cons_succ]
          refine takeL (i := 8) (v := .agg R1.toArray) rfl (by kernel_rfl) (by kernel_rfl) (by kernel_rfl) (fun _ _ _ h => h) (yieldsIf_load_mid (by rfl) 90 _ rfl b1 (off1 + j * 22) (by rfl) R1 _ (fun w' h => h.r1) Tryz.underlying90 rfl hi1) hHeld ?_
          try simp only [Act.put, List.setIfInBounds_toArray, List.set_cons_zero, List.set_cons_succ]
          refine takeL (i := 10) (v := ?_) rfl (by kernel_rfl) (by kernel_rfl) (by kernel_rfl) (fun _ _ _ h => h) (Or.inl ⟨by rfl, ?_⟩) hHeld ?_
          rotate_left
          · rintro w' ⟨r1, r2⟩; go_simp; rfl
          try simp only [Act.put, List.setIfInBounds_toArray, List.set_cons_zero, List.set_cons_succ]
          refine takeL (i := 11) (v := ?_) rfl (by kernel_rfl) (by kernel_rfl) (by kernel_rfl) (fun _ _ _ h => h) (Or.inl ⟨by rfl, ?_⟩) hHeld ?_
          rotate_left
          · rintro w' ⟨r1, r2⟩; go_simp; rfl
          try simp only [Act.put, List.setIfInBounds_toArray, List.set_cons_zero, List.set_cons_succ]
          refine takeL (i := 12) (v := ?_) rfl (by kernel_rfl) (by kernel_rfl) (by kernel_rfl) (fun _ _ _ h => h) (Or.inl ⟨by rfl, ?_⟩) hHeld ?_
          rotate_left
          · rintro w' ⟨r1, r2⟩; go_simp; rfl
          try simp only [Act.put, List.setIfInBounds_toArray, List.set_cons_zero, List.set_cons_succ]
          refine takeL (i := 13) (v := .agg R.toArray) rfl (by kernel_rfl) (by kernel_rfl) (by kernel_rfl) (fun _ _ _ h => h) (yieldsIf_load_mid (by rfl) 90 _ rfl b (off + i * 22) (by rfl) R _ (fun w' h => h.r2) Tryz.underlying90 rfl hi103) hHeld ?_
          try simp only [Act.put, List.setIfInBounds_toArray, List.set_cons_zero, List.set_cons_succ]
          refine wpAnyH_ready (rs := [9]) (by kernel_rfl) (by simp) ?_
          refine consL rfl (fun KK hKK => ?_) AllReadyH.nil
          refine step_callg (by rfl) 80 [.tmp 21] _ [.agg R1.toArray] _ (by rfl) (by rfl) (enter96 _) (CY.out u0) ?_
          rintro e u1 ⟨rfl, hg1⟩
          refine ⟨_, rfl, ?_⟩
          have hb1' := hg1.below
          have HBQ1 : Hid (Be w u1 G (.slice (some ⟨b1, off1, none⟩) i vc) L) := hid (HBQ0.out.carry hb1')
          have hbs1 : b1 < u1.heap.size ∧ b < u1.heap.size := ⟨Nat.lt_of_lt_of_le hbs.1 hb1'.size, Nat.lt_of_lt_of_le hbs.2 hb1'.size⟩
          refine hKK.out _ _ (hHeld.below hb1' hbs.1 hbs.2) (fun hHeld => ?_)
          clear hKK KK hg1 hb1'
          try simp only [Act.put, List.setIfInBounds_toArray, List.set_cons_zero, List.set_cons_succ]
          refine wpAnyH_ready (rs := [14]) (by kernel_rfl) (by simp) ?_
          refine consL rfl (fun KK hKK => ?_) AllReadyH.nil
          refine step_callg (by rfl) 80 [.tmp 26] _ [.agg R.toArray] _ (by rfl) (by rfl) (enter96 _) (CX.out u1) ?_
          rintro e u2 ⟨rfl, hg2⟩
          refine ⟨_, rfl, ?_⟩
          have hb2' := hg2.below
          have HBQ2 : Hid (Be w u2 G (.slice (some ⟨b1, off1, none⟩) i vc) L) := hid (HBQ1.out.carry hb2')
          refine hKK.out _ _ (hHeld.below hb2' hbs1.1 hbs1.2) (fun hHeld => ?_)
          clear hKK KK hg2 hb2' HBQ HBQ0 HBQ1
          try simp only [Act.put, List.setIfInBounds_toArray, List.set_cons_zero, List.set_cons_succ]
          obtain ⟨bb, HBB⟩ : ∃ bb : Bool, Hid (decide (¬ keyB x < keyB y) = bb) := ⟨_, rfl⟩
          have hcmp : (Op.bytesLess KY.toList KX.toList || KY.toList == KX.toList) = bb := by
            rw [← HKX.out, ← HKY.out, Lib.toList_data, Lib.toList_data, leq_iff, HBB.out]
          refine takeL (i := 15) (v := ?_) rfl (by kernel_rfl) (by kernel_rfl) (by kernel_rfl) (fun _ _ _ h => h) (Or.inl ⟨by rfl, ?_⟩) hHeld ?_
          rotate_left
          · rintro w' ⟨r1, r2⟩; go_simp; rfl
          try simp only [Act.put, List.setIfInBounds_toArray, List.set_cons_zero, List.set_cons_succ]
          refine takeL (i := 16) (v := ?_) rfl (by kernel_rfl) (by kernel_rfl) (by kernel_rfl) (fun _ _ _ h => h) (Or.inl ⟨by rfl, ?_⟩) hHeld ?_
          rotate_left
          · rintro w' ⟨r1, r2⟩; go_simp; rfl
          try simp only [Act.put, List.setIfInBounds_toArray, List.set_cons_zero, List.set_cons_succ]
          refine wpAnyH_done (by kernel_rfl) ?_ _
          clear hHeld hcmp
          obtain ⟨HBQ, -⟩ : Hid (Be w u2 G (.slice (some ⟨b1, off1, none⟩) i vc) L) ∧ True := ⟨HBQ2, trivial⟩
          cases bb with
          | true =>
            have HNL : Hid (¬ keyB x < keyB y) := hid (of_decide_eq_true HBB.out)
            go_wp2
            go_roundg (i - (j + 1))
            case measure => omega
            case rel =>
              refine ⟨j + 1, by omega, rfl, by go_num, HBQ, hid (fun k hk => ?_)⟩
              by_cases hkj2 : k < j
              · exact HLE.out k hkj2
              · have : k = j := by omega
                subst this
                rw [HY.out]; exact HNL.out
          | false =>
            have HST : Hid (j = i ∨ keyB x < keyB (L.getD j default)) := hid (.inr (by
              rw [HY.out]
              exact Classical.not_not.1 (of_decide_eq_false HBB.out)))
            obtain ⟨va, HVA⟩ : ∃ va : Option Addr, va = some ⟨b1, off1, none⟩ := ⟨_, rfl⟩
            rw [← HVA] at HBQ HPV
            rw [← HVA]
            clear HVA
            obtain ⟨B2, HB2⟩ : ∃ B, Hid (u2.heap.size = B) := ⟨_, rfl⟩
            have hGB2 : G ≤ B2 := by rw [← HB2.out]; exact HBQ.out.le
            have HPQ : Hid (∀ W', Below B2 u2 W' → Pe W' va vc L) := fun W' hW' => (HPV.out _ HBQ.out).below (by rw [HB2.out]; exact hW')
            have HPX : Hid (∀ W', Below B2 u2 W' → W'.rangeAt b (off + i * 22) R) := fun W' hW' => HRR.out W' (HBQ.out.below.trans (hW'.mono hGB2))
            have HNEW : Hid (ins x L = L.take j ++ x :: L.drop j) := hid (ins_at x L j (by rw [HLL.out]; exact hj) HLE.out (by rw [HLL.out]; exact HST.out))
            have HL1 : Hid ((L.take j).length = j) := hid (by rw [List.length_take, HLL.out]; omega)
            have HL2 : Hid ((L.drop j).length = i - j) := hid (by rw [List.length_drop, HLL.out])
            have HW1 : Hid (∀ y ∈ L.take j, y.id.length = 20) := fun y hy => HLW.out y (List.mem_of_mem_take hy)
            have HW2 : Hid (∀ y ∈ L.drop j, y.id.length = 20) := fun y hy => HLW.out y (List.mem_of_mem_drop hy)
            have hcapj : j ≤ vc := by have := (HPV.out _ HBQ.out).capl; rw [HLL.out] at this; omega
            have hcapi : i ≤ vc := by have := (HPV.out _ HBQ.out).capl; rw [HLL.out] at this; omega
            have hsl1 : ∀ W', (Instr.slice 86 (.slice va i vc) none (some (.int .i64 j)) none).run Tryz.prog W' = .ok (.slice va j vc) W' := fun W' => slE_to va i vc j hcapj W'
            have hsl2 : ∀ W', (Instr.slice 86 (.slice va i vc) (some (.int .i64 j)) none none).run Tryz.prog W' = .ok (.slice (adr va vc j) (i - j) (vc - j)) W' := fun W' => slE_from va i vc j hj W'
            obtain ⟨a3, HA3⟩ : ∃ a, Hid (adr va vc j = a) := ⟨_, rfl⟩
            have HP3 : Hid (∀ W', Below B2 u2 W' → Pe W' a3 (vc - j) (L.drop j)) := fun W' hW' => by rw [← HA3.out]; exact (HPQ.out W' hW').drop j (by rw [HLL.out]; exact hj)
            simp only [HA3.out] at hsl2
            have HB0 : Hid (Be u2 u2 B2 (.slice none 0 0) []) := hid (be_nil u2 B2 (by rw [HB2.out]; exact Nat.le_refl _))
            go_wp2_with (first
              | (at_builtin; refine wpList_be_sl rfl _ _ rfl B2 _ _ rfl HB0.out va vc (L.take j) (by rw [HL1.out]; rfl) ((HPQ.out _ (Below.refl _ _)).take j (by rw [HLL.out]; exact hj)) HW1.out (by rw [HL1.out]; simp; omega) ?_; intro v1 w1 hb1 hg1; have HBE1 : Hid (Be u2 w1 B2 v1 ([] ++ L.take j)) := hb1; clear hb1 hg1; have RX : Hid (w1.rangeAt b (off + i * 22) R) := hid (HPX.out _ HBE1.out.below))
              | refine wpList_load_mid rfl 90 _ rfl b (off + i * 22) rfl R _ RX.out Tryz.underlying90 rfl hi103 ?_
              | refine wpList_buildS rfl 86 1 _ rfl (.agg R.toArray) _ rfl (by rw [← HR.out]; exact run_build103 x HX20.out _) ?_
              | (at_builtin; refine wpList_be_sl rfl _ _ rfl B2 _ _ rfl (HBE1.out.alloc _) (some ⟨w1.heap.size, 0, none⟩) 1 [x] rfl (pe_one w1 x) HX1.out (by simp only [List.nil_append, HL1.out, List.length_cons, List.length_nil]; omega) ?_; intro v2 w2 hb2 hg2; have HBE2 : Hid (Be u2 w2 B2 v2 (([] ++ L.take j) ++ [x])) := hb2; clear hb2 hg2)
              | (at_builtin; refine wpList_be_sl rfl _ _ rfl B2 _ _ rfl HBE2.out a3 (vc - j) (L.drop j) (by rw [HL2.out]; rfl) (HP3.out _ HBE2.out.below) HW2.out (by simp only [List.nil_append, List.length_append, HL1.out, HL2.out, List.length_cons, List.length_nil]; omega) ?_; intro v3 w3 hb3 hg3; have HBE3 : Hid (Be u2 w3 B2 v3 ((([] ++ L.take j) ++ [x]) ++ L.drop j)) := hb3; clear hb3 hg3)
              | fail)
            go_roundg (n - (i + 1))
            case measure => omega
            case rel =>
              refine ⟨i + 1, v3, rfl, by omega, rfl, by go_num, hid ?_⟩
              have h3 := HBE3.out
              rw [List.nil_append, List.append_assoc, List.singleton_append, ← HNEW.out, ← HL.out, ← HXX.out, ← srtE_snoc, ← take_snocE es i (by rw [HN.out]; exact hlt)] at h3
              exact ⟨HBQ.out.below.trans (h3.below.mono hGB2), base_mono h3.own hGB2, Nat.le_trans HBQ.out.le (by rw [HB2.out]; exact h3.le)⟩
        · have hjii : ¬ (j : Int) < (i : Int) := by omega
          have hje : j = i := by omega
          have HST : Hid (j = i ∨ keyB x < keyB (L.getD j default)) := hid (.inl hje)
          clear hje
          go_wp2_with fail
          go_quiet (fail)
          have HBQ' : Hid (Be w (wr.drewN nq) G (.slice va i vc) L) := hid (HBQ.out.carry (below_drewH (Below.refl _ _) nq))
          clear HBQ
          generalize wr.drewN nq = WQ at HBQ' ⊢
          have HBQ : Hid (Be w WQ G (.slice va i vc) L) := HBQ'
          clear HBQ'
          obtain ⟨B2, HB2⟩ : ∃ B, Hid (WQ.heap.size = B) := ⟨_, rfl⟩
          have hGB2 : G ≤ B2 := by rw [← HB2.out]; exact HBQ.out.le
          have HPQ : Hid (∀ W', Below B2 WQ W' → Pe W' va vc L) := fun W' hW' => (HPV.out _ HBQ.out).below (by rw [HB2.out]; exact hW')
          have HPX : Hid (∀ W', Below B2 WQ W' → W'.rangeAt b (off + i * 22) R) := fun W' hW' => HRR.out W' (HBQ.out.below.trans (hW'.mono hGB2))
          have HNEW : Hid (ins x L = L.take j ++ x :: L.drop j) := hid (ins_at x L j (by rw [HLL.out]; exact hj) HLE.out (by rw [HLL.out]; exact HST.out))
          have HL1 : Hid ((L.take j).length = j) := hid (by rw [List.length_take, HLL.out]; omega)
          have HL2 : Hid ((L.drop j).length = i - j) := hid (by rw [List.length_drop, HLL.out])
          have HW1 : Hid (∀ y ∈ L.take j, y.id.length = 20) := fun y hy => HLW.out y (List.mem_of_mem_take hy)
          have HW2 : Hid (∀ y ∈ L.drop j, y.id.length = 20) := fun y hy => HLW.out y (List.mem_of_mem_drop hy)
          have hcapj : j ≤ vc := by have := (HPV.out _ HBQ.out).capl; rw [HLL.out] at this; omega
          have hcapi : i ≤ vc := by have := (HPV.out _ HBQ.out).capl; rw [HLL.out] at this; omega
          have hsl1 : ∀ W', (Instr.slice 86 (.slice va i vc) none (some (.int .i64 j)) none).run Tryz.prog W' = .ok (.slice va j vc) W' := fun W' => slE_to va i vc j hcapj W'
          have hsl2 : ∀ W', (Instr.slice 86 (.slice va i vc) (some (.int .i64 j)) none none).run Tryz.prog W' = .ok (.slice (adr va vc j) (i - j) (vc - j)) W' := fun W' => slE_from va i vc j hj W'
          obtain ⟨a3, HA3⟩ : ∃ a, Hid (adr va vc j = a) := ⟨_, rfl⟩
          have HP3 : Hid (∀ W', Below B2 WQ W' → Pe W' a3 (vc - j) (L.drop j)) := fun W' hW' => by rw [← HA3.out]; exact (HPQ.out W' hW').drop j (by rw [HLL.out]; exact hj)
          simp only [HA3.out] at hsl2
          have HB0 : Hid (Be WQ WQ B2 (.slice none 0 0) []) := hid (be_nil WQ B2 (by rw [HB2.out]; exact Nat.le_refl _))
          go_wp2_with (first
            | (at_builtin; refine wpList_be_sl rfl _ _ rfl B2 _ _ rfl HB0.out va vc (L.take j) (by rw [HL1.out]; rfl) ((HPQ.out _ (Below.refl _ _)).take j (by rw [HLL.out]; exact hj)) HW1.out (by rw [HL1.out]; simp; omega) ?_; intro v1 w1 hb1 hg1; have HBE1 : Hid (Be WQ w1 B2 v1 ([] ++ L.take j)) := hb1; clear hb1 hg1; have RX : Hid (w1.rangeAt b (off + i * 22) R) := hid (HPX.out _ HBE1.out.below))
            | refine wpList_load_mid rfl 90 _ rfl b (off + i * 22) rfl R _ RX.out Tryz.underlying90 rfl hi103 ?_
            | refine wpList_buildS rfl 86 1 _ rfl (.agg R.toArray) _ rfl (by rw [← HR.out]; exact run_build103 x HX20.out _) ?_
            | (at_builtin; refine wpList_be_sl rfl _ _ rfl B2 _ _ rfl (HBE1.out.alloc _) (some ⟨w1.heap.size, 0, none⟩) 1 [x] rfl (pe_one w1 x) HX1.out (by simp only [List.nil_append, HL1.out, List.length_cons, List.length_nil]; omega) ?_; intro v2 w2 hb2 hg2; have HBE2 : Hid (Be WQ w2 B2 v2 (([] ++ L.take j) ++ [x])) := hb2; clear hb2 hg2)
            | (at_builtin; refine wpList_be_sl rfl _ _ rfl B2 _ _ rfl HBE2.out a3 (vc - j) (L.drop j) (by rw [HL2.out]; rfl) (HP3.out _ HBE2.out.below) HW2.out (by simp only [List.nil_append, List.length_append, HL1.out, HL2.out, List.length_cons, List.length_nil]; omega) ?_; intro v3 w3 hb3 hg3; have HBE3 : Hid (Be WQ w3 B2 v3 ((([] ++ L.take j) ++ [x]) ++ L.drop j)) := hb3; clear hb3 hg3)
            | fail)
          go_roundg (n - (i + 1))
          case measure => omega
          case rel =>
            refine ⟨i + 1, v3, rfl, by omega, rfl, by go_num, hid ?_⟩
            have h3 := HBE3.out
            rw [List.nil_append, List.append_assoc, List.singleton_append, ← HNEW.out, ← HL.out, ← HXX.out, ← srtE_snoc, ← take_snocE es i (by rw [HN.out]; exact hlt)] at h3
            exact ⟨HBQ.out.below.trans (h3.below.mono hGB2), base_mono h3.own hGB2, Nat.le_trans HBQ.out.le (by rw [HB2.out]; exact h3.le)⟩
    · have hlti : ¬ (i : Int) < (n : Int) := by omega
      have hin : i = n := by omega
      have HEN : Hid (es.take i = es) := hid (List.take_of_length_le (by rw [HN.out]; omega))
      have HBZ : Hid (Be w wr G v (srtE es)) := hid (by have := HBE.out; rw [HEN.out] at this; exact this)
      have HSN : Hid ((srtE es).length = n) := hid (by rw [(srtE_perm es).length_eq]; exact HN.out)
      obtain ⟨va, vc, hv⟩ : ∃ va vc, v = .slice va n vc := by
        have ho := HBZ.out.own
        rw [HSN.out] at ho
        exact owns_shape ho
      subst hv
      have HPZ : Hid (Pe wr va vc (srtE es)) := hid (HBZ.out.pe (fun y hy => HWF.out y ((srtE_perm es).subset hy)) HSN.out).1
      clear hin
      go_wp2
      go_ret
      exact ⟨by rw [HG.out]; exact HBZ.out.below, va, vc, rfl, HPZ.out⟩
end Go.Proofs.YtikmbjfambjmaaaGreatDoor
namespace Go.Proofs.YtikmbjfambjmaaaGreatDoor
open Go.RowKit
variable [Inhabited Er] [Inhabited En]
set_option linter.unusedVariables false
set_option linter.unusedSectionVars false
set_option linter.unusedSimpArgs false
structure Bf (w0 w : World) (B : Nat) (v : Value) (es : List Er) : Prop where
  below : Below B w0 w
  own : w.ownsRow B 84 22 v es.length (fE es)
  le : B ≤ w.heap.size
theorem Bf.alloc {w0 w : World} {B : Nat} {v : Value} {es : List Er} (h : Bf w0 w B v es) (o : Obj) : Bf w0 (w.alloc o) B v es :=
  ⟨h.below.alloc h.le o, h.own.alloc o, Nat.le_trans h.le (by simp)⟩
theorem bf_nil (w : World) (B : Nat) (h : B ≤ w.heap.size) : Bf w w B (.slice none 0 0) [] := ⟨Below.refl _ _, ⟨rfl, .inl ⟨rfl, rfl⟩⟩, h⟩
theorem Bf.carry {w0 w w' : World} {B : Nat} {v : Value} {es : List Er} (h : Bf w0 w B v es) (hb : Below w.heap.size w w') : Bf w0 w' B v es :=
  ⟨h.below.trans (hb.mono h.le), h.own.kept (row := none) ⟨hb.os, hb.tape, hb.output, hb.size, fun k hk _ => hb.block k hk⟩ (by cases h : v.ownBlock <;> simp), Nat.le_trans h.le hb.size⟩
theorem Bf.pe {w0 w : World} {B : Nat} {a : Option Addr} {n cap : Nat} {es : List Er} (h : Bf w0 w B (.slice a n cap) es) (hw : ∀ x ∈ es, x.id.length = 20) (hn : es.length = n) : Pe w a cap es := by
  obtain ⟨hl, ⟨h1, h2⟩ | ⟨g, c, cur, h1, hB, h3, h4, h5, h6, h7⟩⟩ := h.own
  · cases h1
    exact ⟨by omega, fun h0 => by omega, fun _ => rfl⟩
  · cases h1
    have hlt := lt_of_some h3
    refine ⟨h4, fun h0 => ⟨g, 0, rfl, hlt, fun i hi j v hv => ?_⟩, fun h => by cases h⟩
    have hj : j < 22 := by
      obtain ⟨hj, _⟩ := List.getElem?_eq_some_iff.1 hv
      have hm : es.getD i default ∈ es := by
        rw [List.getD_eq_getElem?_getD, List.getElem?_eq_getElem hi]
        exact List.getElem_mem _
      rw [erV_len _ (hw _ hm)] at hj
      exact hj
    have hf := fE_at es hw i j hi hj
    rw [hv] at hf
    have hlt2 := (List.getElem?_eq_some_iff.1 hf).1
    have := h.own.cellAt (i * 22 + j) (by rw [fE_len es hw] at hlt2; omega)
    rw [Nat.zero_add, this, hf]
theorem Tryz.info84' : (Tryz.prog.info? 84).map (fun i => (i.zero, i.size, i.bytes)) = some (some (.agg (erV ⟨0, [], z20⟩).toArray), 22, 48) := by kernel_rfl
theorem wpList_bf_one {w w0 : World} {ops : Array Oper} {rest : List Oper} {o : Oper} {a : Act} {Q : Exit → Act → World → Prop} (hgd : o.guard = none) (s x : Operand) (ho : o.op = .call { callee := .builtin .append, args := #[s, x], argTypes := #[72, 72] }) (B : Nat) (v : Value) (es : List Er) (hs : a.eval s = v) (h : Bf w0 w B v es)
    (b : Nat) (y : Er) (hx : a.eval x = .slice (some ⟨b, 0, none⟩) 1 1) (hb : w.rangeAt b 0 (erV y)) (hy : y.id.length = 20) (hl : es.length ≤ 3000)
    (hK : ∀ v' w', Bf w0 w' B v' (es ++ [y]) → wpList Tryz.prog ops Q rest (a.put o.dst v') w') : wpList Tryz.prog ops Q (o :: rest) a w := by
  obtain ⟨i, hi, hz0, hz1, hz2⟩ := info_parts Tryz.info84'
  refine wpList_append_own_at w hgd s x 72 ho B 84 i (.agg (erV ⟨0, [], z20⟩).toArray) 22 48 Tryz.underlying72 hi hz0 hz1 hz2 rfl (by decide) v _ _ hs h.own ⟨b, 0, none⟩ 1 1 (erV y) hx (by rw [erV_len y hy]) (fun j u hj => by rw [addr_add]; exact hb j u hj) (erV_one y) (by unfold maxLen; omega) (by omega) h.le ?_
  intro v' w' h1 h2 h3 h4
  refine hK v' w' ⟨h.below.grown h2 h.le (fun k hk => (own_lt h.own k hk).1), ?_, Nat.le_trans h.le h2.size⟩
  rw [List.length_append, fE_snoc]
  exact h1
def fill (r : List UInt8) : List Int := nums (r.take 20) ++ List.replicate (20 - (r.take 20).length) 0
theorem fill_len (r : List UInt8) : (fill r).length = 20 := by simp [fill, nums_len]; omega
theorem fill_b (r : List UInt8) : ∀ n ∈ fill r, 0 ≤ n ∧ n < 256 := by
  intro n hn
  rcases List.mem_append.1 hn with h | h
  · exact nums_isB _ n h
  · have := List.eq_of_mem_replicate h
    omega
theorem fill_id (y : List Int) (r : List UInt8) (h : y.length = 20) (hb : ∀ n ∈ y, 0 ≤ n ∧ n < 256) : fill (Lib.bytesOf y ++ r) = y := by
  have hl : (Lib.bytesOf y).length = 20 := by rw [Lib.bytesOf_length, h]
  unfold fill
  rw [List.take_left' hl, hl, nums_bytes y hb]
  simp
theorem rf_entry (t : List UInt8) (v : Int) (h : ∀ m, okM m → (Lib.cut (Lib.cut t [0]).1 [32]).1 = octB m → v = m) :
    Rf t ⟨v, (Lib.cut (Lib.cut t [0]).1 [32]).2.1, fill (Lib.cut t [0]).2.1⟩ ((Lib.cut t [0]).2.1.drop 20) := by
  intro y r' hm he hl hb ht
  have e1 : Lib.cut t [0] = (octB y.mode ++ 32 :: y.name, Lib.bytesOf y.id ++ r', true) := by
    rw [ht, erB]
    have := cut_one (octB y.mode ++ 32 :: y.name) (Lib.bytesOf y.id ++ r') 0 (by
      intro hmem
      rcases List.mem_append.1 hmem with h1 | h1
      · exact (octB_ne _ _ h1).2 rfl
      · rcases List.mem_cons.1 h1 with h2 | h2
        · cases h2
        · exact (he.2.2.2.2.2 _ h2).2 rfl)
    rw [← this]
    simp
  have e2 : Lib.cut (octB y.mode ++ 32 :: y.name) [32] = (octB y.mode, y.name, true) := cut_one _ _ 32 (fun hmem => (octB_ne _ _ hmem).1 rfl)
  rw [e1] at h ⊢
  simp only [e2] at h ⊢
  have hv := h y.mode hm rfl
  refine ⟨?_, ?_⟩
  · rw [hv, fill_id y.id r' hl hb]
  · rw [List.drop_left' (by rw [Lib.bytesOf_length, hl])]
theorem cut_len (t : List UInt8) (c : UInt8) (h : t ≠ []) : (Lib.cut t [c]).2.1.length + 1 ≤ t.length := by
  have hp := List.length_pos_iff.2 h
  unfold Lib.cut
  split
  · simp only [List.length_drop, List.length_cons, List.length_nil]; omega
  · show 0 + 1 ≤ t.length
    omega
theorem run_copy_str (w : World) (b o : Nat) (t : ByteArray) (k : Nat) (hk : k = Nat.min t.size 20) (ty : TypeId)
    (hc : ∀ j, j < k → (w.cell? ⟨b, o + j, none⟩).isSome = true) (hf : ∀ j, j < k → w.frozen? ⟨b, o + j, none⟩ = false) :
    (Builtin.copy_ #[26, 9] ty #[.slice (some ⟨b, o, none⟩) 20 20, .string t]).run Tryz.prog w = .ok (.int .i64 k) (w.setCells b o ((t.data.toList.map fun x => Value.int .u8 (x.toNat : Int)).take k)) := by
  obtain ⟨i5, hi, hz0, hz1, hz2⟩ := info_parts Tryz.info5
  have hl : ((t.data.toList.map fun x => Value.int .u8 (x.toNat : Int)).take k).length = k := by
    rw [List.length_take, List.length_map, Array.length_toList]
    have : t.data.size = t.size := rfl
    have h2 : Nat.min t.size 20 = min t.size 20 := rfl
    rw [this]
    omega
  have hst := run_storeCells_cells (P := Tryz.prog) b o ((t.data.toList.map fun x => Value.int .u8 (x.toNat : Int)).take k) 0 w (by rw [hl]; simpa using hc) (by rw [hl]; simpa using hf) (by
    intro v hv
    obtain ⟨x, _, rfl⟩ := List.mem_map.1 (List.mem_of_mem_take hv)
    rfl)
  simp [Builtin.copy_, run_underlying Tryz.underlying26, Builtin.lenOf, Builtin.firstCells, sizeOf, typeInfo, hi, hz1, ← hk]
  rw [hst]
  rfl
set_option maxRecDepth 20000 in
theorem built51 (m : Int) (S : ByteArray) : Tryz.prog.built 84 [(0, .int .i64 m), (1, .string S)] = some (Value.int .i64 m :: Value.string S :: row .u8 z20).toArray := by
  kernel_rfl
end Go.Proofs.YtikmbjfambjmaaaGreatDoor
