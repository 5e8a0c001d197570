/- The document's 'sorted'. -/
import Derived.Test.YtdfihfmmfmoabaaDoorPkM
import Derived.Great.BuildSlice
namespace Go.Proofs.YtdfihfmmfmoabaaDoor
open Go.RowKit Go.Shelf
variable [Inhabited Pn]
set_option linter.unusedVariables false
set_option linter.unusedSectionVars false
set_option linter.unusedSimpArgs false
theorem Tryd.info48p : (Tryd.prog.info? 48).map (fun i => (i.zero, i.size, i.bytes)) = some (some (.agg (plV p0).toArray), 22, 40) := by kernel_rfl
theorem size48 : (Tryd.prog.info? 48).map (·.size) = some 22 := by kernel_rfl
theorem zero48 (w : World) : (zeroValue 48).run Tryd.prog w = .ok (.agg (plV p0).toArray) w := by kernel_rfl
theorem list20 : ∀ (fr : List Int), fr.length = 20 → ∃ a0 a1 a2 a3 a4 a5 a6 a7 a8 a9 a10 a11 a12 a13 a14 a15 a16 a17 a18 a19, fr = [a0, a1, a2, a3, a4, a5, a6, a7, a8, a9, a10, a11, a12, a13, a14, a15, a16, a17, a18, a19]
  | [a0, a1, a2, a3, a4, a5, a6, a7, a8, a9, a10, a11, a12, a13, a14, a15, a16, a17, a18, a19], _ => ⟨a0, a1, a2, a3, a4, a5, a6, a7, a8, a9, a10, a11, a12, a13, a14, a15, a16, a17, a18, a19, rfl⟩
theorem bl_lt : ∀ x y : List UInt8, Op.bytesLess x y = decide (x < y)
  | [], [] => by simp [Op.bytesLess]
  | [], b :: y => by simp [Op.bytesLess]
  | a :: x, [] => by simp [Op.bytesLess]
  | a :: x, b :: y => by
    rw [Op.bytesLess, bl_lt x y]
    rw [Bool.eq_iff_iff]
    simp [List.cons_lt_cons_iff]
theorem Bp.pp {e : TypeId} {w0 w : World} {B : Nat} {a : Option Addr} {n cap : Nat} {es : List Pl} (h : Bp e w0 w B (.slice a n cap) es) (hw : ∀ x ∈ es, x.id.length = 20) (hn : es.length = n) : Pp w a cap es ∧ ∀ p : Addr, a = some p → B ≤ p.block := by
  obtain ⟨a', cap', e1, e2, e3⟩ := own_pp h.own hw
  cases e1
  exact ⟨e2, e3⟩
theorem Pp.take {w : World} {a : Option Addr} {cap : Nat} {es : List Pl} (h : Pp w a cap es) (j : Nat) (hj : j ≤ es.length) : Pp w a cap (es.take j) :=
  ⟨by rw [List.length_take]; have := h.capl; omega, fun h0 => by
    rw [List.length_take] at h0
    obtain ⟨b, off, e1, e2, e3⟩ := h.at_ (by omega)
    refine ⟨b, off, e1, e2, fun i hi => ?_⟩
    rw [List.length_take] at hi
    have := e3 i (by omega)
    rw [show (es.take j).getD i p0 = es.getD i p0 by rw [List.getD_eq_getElem?_getD, List.getD_eq_getElem?_getD, List.getElem?_take, if_pos (by omega)]]
    exact this, h.nil⟩
/-- The address behind the first so many. -/
def adr (a : Option Addr) (cap j : Nat) : Option Addr := if cap = j then a else a.map (·.add (j * 22))
theorem Pp.drop {w : World} {a : Option Addr} {cap : Nat} {es : List Pl} (h : Pp w a cap es) (j : Nat) (hj : j ≤ es.length) : Pp w (adr a cap j) (cap - j) (es.drop j) :=
  ⟨by rw [List.length_drop]; have := h.capl; omega, fun h0 => by
    rw [List.length_drop] at h0
    obtain ⟨b, off, e1, e2, e3⟩ := h.at_ (by omega)
    subst e1
    have hc := h.capl
    refine ⟨b, off + j * 22, by unfold adr; rw [if_neg (by omega), Option.map_some, addr_add], e2, fun i hi => ?_⟩
    rw [List.length_drop] at hi
    have := e3 (j + i) (by omega)
    rw [show (es.drop j).getD i p0 = es.getD (j + i) p0 by rw [List.getD_eq_getElem?_getD, List.getD_eq_getElem?_getD, List.getElem?_drop]]
    rw [show off + j * 22 + i * 22 = off + (j + i) * 22 by rw [Nat.add_mul]; omega]
    exact this, fun h2 => by
    have : a = none := by
      unfold adr at h2
      split at h2
      · exact h2
      · cases a with
        | none => rfl
        | some p => cases h2
    have := h.nil this
    omega⟩
theorem elem33 : Tryd.prog.underlying 33 = some (.slice (Tryd.prog.elem 33)) := by kernel_rfl
theorem size33e (w : World) : (sizeOf (Tryd.prog.elem 33)).run Tryd.prog w = .ok 22 w := by kernel_rfl
theorem slP_to (a : Option Addr) (n cap j : Nat) (h : j ≤ cap) (w : World) : (Instr.slice 33 (.slice a n cap) none (some (.int .i64 j)) none).run Tryd.prog w = .ok (.slice a j cap) w := by
  rw [run_slice_h w 33 a n cap elem33 .i64 j (by omega) (by omega), size33e, Result.andThen_ok, sliced]
  congr 2
  split
  · rfl
  · cases a with
    | none => rfl
    | some p => obtain ⟨b, o, f⟩ := p; simp [Addr.add]
theorem slP_from (a : Option Addr) (n cap j : Nat) (h : j ≤ n) (w : World) : (Instr.slice 33 (.slice a n cap) (some (.int .i64 j)) none none).run Tryd.prog w = .ok (.slice (adr a cap j) (n - j) (cap - j)) w := by
  rw [run_slice_l w 33 a n cap elem33 .i64 j (by omega) (by omega), size33e, Result.andThen_ok, sliced]
  rfl
/-- What the drawn test reads. -/
structure QC (b1 o1 b2 o2 : Nat) (SY SX : ByteArray) (W : World) : Prop where
  c1 : (convert 25 9 (.slice (some ⟨b1, o1, none⟩) 20 20)).run Tryd.prog W = .ok (.string SY) W
  c2 : (convert 25 9 (.slice (some ⟨b2, o2, none⟩) 20 20)).run Tryd.prog W = .ok (.string SX) W
theorem pl_sl {W : World} {b o : Nat} {x : Pl} (h : W.rangeAt b o (plV x)) (hx : x.id.length = 20) (hb : b < W.heap.size) : Sl W (some ⟨b, o, none⟩) 20 x.id :=
  ⟨by omega, fun _ => ⟨b, o, rfl, hb, fun i hi => pl_id h i _ (by rw [row_at _ _ _ hi])⟩, fun e => by cases e⟩
theorem take_snocP2 (s : List Pl) (i : Nat) (h : i < s.length) : s.take (i + 1) = s.take i ++ [s.getD i p0] := by
  rw [List.take_add_one, List.getD_eq_getElem?_getD, List.getElem?_eq_getElem h]; rfl
theorem base_mono {w : World} {B B' : Nat} {e : TypeId} {s : Nat} {v : Value} {n : Nat} {xs : List Value} (h : w.ownsRow B' e s v n xs) (hB : B ≤ B') : w.ownsRow B e s v n xs := by
  obtain ⟨hl, h1 | ⟨g, c, cur, h1, h2, h3⟩⟩ := h
  · exact ⟨hl, .inl h1⟩
  · exact ⟨hl, .inr ⟨g, c, cur, h1, Nat.le_trans hB h2, h3⟩⟩
set_option maxRecDepth 20000 in
theorem run_build48 (x : Pl) (h : x.id.length = 20) (w : World) : (Instr.buildSlice 33 1 #[(0, .agg (plV x).toArray)]).run Tryd.prog w = .ok (.slice (some ⟨w.heap.size, 0, none⟩) 1 1) (w.alloc (.cells (plV x).toArray 48)) := by
  obtain ⟨i, hq, hz, hs, _⟩ := info_parts Tryd.info48p
  refine run_buildSlice w 33 48 1 _ (plV x).toArray i _ Tryd.underlying33 hq hz (by rw [hs]; decide) (by rw [hs]; decide) ?_
  rw [hs]
  obtain ⟨a0, a1, a2, a3, a4, a5, a6, a7, a8, a9, a10, a11, a12, a13, a14, a15, a16, a17, a18, a19, e⟩ := list20 x.id h
  unfold plV
  rw [e]
  kernel_rfl
theorem pp_one (w : World) (x : Pl) : Pp (w.alloc (.cells (plV x).toArray 48)) (some ⟨w.heap.size, 0, none⟩) 1 [x] :=
  ⟨by simp, fun _ => ⟨w.heap.size, 0, rfl, by simp, fun i hi => by
    have : i = 0 := by simpa using hi
    subst this
    simpa using range_row (heap_alloc_new w (.cells (plV x).toArray 48))⟩, fun h => by cases h⟩
theorem wpList_buildS {P : Program} {ops : Array Oper} {rest : List Oper} {o : Oper} {a : Act} {w w' : World} {Q : Exit → Act → World → Prop} (hg : o.guard = none) (t len : Nat) (x : Operand) (ho : o.op = .buildSlice t len #[(0, x)]) (u v : Value) (hx : a.eval x = u)
    (hr : (Instr.buildSlice t len #[(0, u)]).run P w = .ok v w')
    (h : wpList P ops Q rest (a.put o.dst v) w') : wpList P ops Q (o :: rest) a w := by
  refine wpList_plain hg fun K hK => ?_
  unfold Oper.wp execOp
  simp [ho, hx, hr, Result.andThen]
  exact hK _ _ h
set_option maxRecDepth 20000 in
set_option maxHeartbeats 8000000 in
theorem sorted_any (a : Option Addr) (cap : Nat) (es : List Pl) (hwf : ∀ x ∈ es, x.id.length = 20) (hn : es.length ≤ 1000) (w : World) (hP : Pp w a cap es) :
    Calls Tryd.prog 15 #[.slice a es.length cap] w fun e w' => Below w.heap.size w w' ∧ ∃ a' cap', e = .returned (.slice a' es.length cap') ∧ Pp w' a' cap' (srtI es) := by
  obtain ⟨n, HN⟩ : ∃ n, Hid (es.length = n) := ⟨_, rfl⟩
  obtain ⟨G, HG⟩ : ∃ G, Hid (w.heap.size = G) := ⟨_, rfl⟩
  have hnn : n ≤ 1000 := by rw [← HN.out]; exact hn
  have HPA : Hid (∀ W, Below G w W → Pp W a cap es) := fun W hW => hP.below (by rw [HG.out]; exact hW)
  have HPL : Hid (0 < n → ∃ b off, a = some ⟨b, off, none⟩ ∧ b < G) := fun h0 => by
    obtain ⟨b, off, e1, e2, _⟩ := hP.at_ (by rw [HN.out]; exact h0)
    exact ⟨b, off, e1, by rw [← HG.out]; exact e2⟩
  have HWF : Hid (∀ x ∈ es, x.id.length = 20) := hwf
  have HMEM : Hid (∀ i, ∀ y ∈ srtI (es.take i), y ∈ es) := fun i y hy => List.mem_of_mem_take ((srtI_both _).1.subset hy)
  have HSL : Hid (∀ i, i ≤ n → (srtI (es.take i)).length = i) := fun i hi => by rw [(srtI_both _).1.length_eq, List.length_take, HN.out]; omega
  have HE0 : Hid (Bp 48 w w G (.slice none 0 0) (srtI (es.take 0))) := hid (bp_nil 48 w G (by rw [HG.out]; exact Nat.le_refl _))
  rw [HN.out]
  clear hP hwf
  go_enter Tryd.func15, Tryd.ntmps15
  go_wp2_with fail
  go_loopg [3, 4] n (fun g u iv wr => ∃ (i : Nat) (v : Value), v = u ∧ i ≤ n ∧ g = n - i ∧ iv = .int .i64 i ∧ Hid (Bp 48 w wr G v (srtI (es.take i))))
  case atStart => exact ⟨0, _, rfl, Nat.zero_le _, rfl, rfl, HE0⟩
  case round =>
    obtain ⟨i, v, hv, hi, hk, rfl, HBE⟩ := hrel
    subst hv
    by_cases hlt : i < n
    · have hlti : (i : Int) < (n : Int) := by omega
      obtain ⟨L, HL⟩ : ∃ L, Hid (srtI (es.take i) = L) := ⟨_, rfl⟩
      have HLL : Hid (L.length = i) := hid (by rw [← HL.out]; exact HSL.out i hi)
      have HLW : Hid (∀ y ∈ L, y.id.length = 20) := hid (by rw [← HL.out]; exact fun y hy => HWF.out y (HMEM.out i y hy))
      rw [HL.out] at HBE
      obtain ⟨va, vc, hv⟩ : ∃ va vc, v = .slice va i vc := by
        have ho := HBE.out.own
        rw [HLL.out] at ho
        exact owns_shape ho
      subst hv
      have HPV : Hid (∀ W, Bp 48 w W G (.slice va i vc) L → Pp W va vc L) := fun W hW => (hW.pp HLW.out HLL.out).1
      obtain ⟨b, off, hae, hbG⟩ := HPL.out (by omega)
      subst hae
      obtain ⟨x, HXX⟩ : ∃ x, Hid (es.getD i p0 = x) := ⟨_, rfl⟩
      have hxm : x ∈ es := by
        rw [← HXX.out, List.getD_eq_getElem?_getD, List.getElem?_eq_getElem (by rw [HN.out]; exact hlt)]
        exact List.getElem_mem _
      have HX20 : Hid (x.id.length = 20) := HWF.out x hxm
      have HX1 : Hid (∀ y ∈ [x], y.id.length = 20) := fun y hy => by
        have : y = x := by simpa using hy
        rw [this]; exact HX20.out
      obtain ⟨R, HR⟩ : ∃ R : List Value, Hid (plV x = R) := ⟨_, rfl⟩
      have HRR : Hid (∀ W, Below G w W → W.rangeAt b (off + i * 22) R) := fun W hW => by
        obtain ⟨b', off', e1, e2, e3⟩ := (HPA.out W hW).at_ (by rw [HN.out]; omega)
        cases e1
        rw [← HR.out, ← HXX.out]
        exact e3 i (by rw [HN.out]; exact hlt)
      have hi48 : (Tryd.prog.info? 48).map (·.size) = some R.length := by rw [← HR.out, plV_len x HX20.out]; exact size48
      have HSX : Hid (∀ W, Below G w W → Sl W (some ⟨b, off + i * 22, none⟩) 20 x.id) := fun W hW => pl_sl (by rw [HR.out]; exact HRR.out W hW) HX20.out (Nat.lt_of_lt_of_le hbG (by rw [← HG.out]; exact hW.size))
      obtain ⟨SX, HSXX⟩ : ∃ S : ByteArray, Hid (⟨(Lib.bytesOf x.id).toArray⟩ = S) := ⟨_, rfl⟩
      clear hxm
      go_wp2_with fail
      go_loopg [5] i (fun g jv wq => ∃ j : Nat, j ≤ i ∧ g = i - j ∧ jv = .int .i64 j ∧ Hid (Bp 48 w wq G (.slice va i vc) L) ∧ Hid (∀ k, k < j → Lib.bytesOf (L.getD k p0).id < Lib.bytesOf x.id))
      case atStart => exact ⟨0, Nat.zero_le _, rfl, rfl, HBE, hid (fun k hk => absurd hk (Nat.not_lt_zero _))⟩
      case round =>
        obtain ⟨j, hj, hkj, rfl, HBQ, HLE⟩ := hrel
        by_cases hji : j < i
        · have hjii : (j : Int) < (i : Int) := by omega
          obtain ⟨b1, off1, hva, hb1⟩ : ∃ b1 off1, va = some ⟨b1, off1, none⟩ ∧ b1 < wr.heap.size := by
            obtain ⟨b1, off1, e1, e2, _⟩ := (HPV.out _ HBQ.out).at_ (by rw [HLL.out]; omega)
            exact ⟨b1, off1, e1, e2⟩
          subst hva
          obtain ⟨y, HY⟩ : ∃ y, Hid (L.getD j p0 = y) := ⟨_, rfl⟩
          have hym : y ∈ L := by
            rw [← HY.out, List.getD_eq_getElem?_getD, List.getElem?_eq_getElem (by rw [HLL.out]; exact hji)]
            exact List.getElem_mem _
          have HY20 : Hid (y.id.length = 20) := HLW.out y hym
          have HSY : Hid (∀ W, Bp 48 w W G (.slice (some ⟨b1, off1, none⟩) i vc) L → Sl W (some ⟨b1, off1 + j * 22, none⟩) 20 y.id) := fun W hW => by
            obtain ⟨b', off', e1, e2, e3⟩ := (HPV.out _ hW).at_ (by rw [HLL.out]; omega)
            cases e1
            rw [← HY.out]
            exact pl_sl (e3 j (by rw [HLL.out]; exact hji)) (by rw [HY.out]; exact HY20.out) e2
          obtain ⟨SY, HSYY⟩ : ∃ S : ByteArray, Hid (⟨(Lib.bytesOf y.id).toArray⟩ = S) := ⟨_, rfl⟩
          have HBQ0 : Hid (Bp 48 w wr.drew G (.slice (some ⟨b1, off1, none⟩) i vc) L) := hid (HBQ.out.carry (below_drewH (Below.refl _ _) 1))
          have HQ0 : Hid (QC b1 (off1 + j * 22) b (off + i * 22) SY SX wr.drew) := hid (by
            have h1 := conv_str (HSY.out _ HBQ0.out)
            have h2 := conv_str (HSX.out _ HBQ0.out.below)
            rw [HY20.out, HSYY.out] at h1
            rw [HX20.out, HSXX.out] at h2
            exact ⟨h1, h2⟩)
          clear hym
          obtain ⟨bb, HBB⟩ : ∃ bb : Bool, Hid (decide (Lib.bytesOf y.id < Lib.bytesOf x.id) = bb) := ⟨_, rfl⟩
          have hcmp : Op.bytesLess SY.toList SX.toList = bb := by
            rw [← HSXX.out, ← HSYY.out, Lib.toList_data, Lib.toList_data, bl_lt, HBB.out]
          go_wp2_with fail
          refine wp_region_held_drew (S := QC b1 (off1 + j * 22) b (off + i * 22) SY SX) (by kernel_rfl) (by exact HQ0.out) (fun hHeld => ?_)
          generalize wr.drew = u0 at hHeld HQ0 HBQ0 ⊢
          clear HQ0
          refine takeL (i := 0) (v := ?_) rfl (by kernel_rfl) (by kernel_rfl) (by kernel_rfl) (fun _ _ _ h => h) (Or.inl ⟨by rfl, ?_⟩) hHeld ?_
          rotate_left
          · rintro w' ⟨c1, c2⟩; go_simp; rfl
          try simp only [Act.put, List.setIfInBounds_toArray, List.set_cons_zero, List.set_cons_succ]
          refine takeL (i := 1) (v := ?_) rfl (by kernel_rfl) (by kernel_rfl) (by kernel_rfl) (fun _ _ _ h => h) (Or.inl ⟨by rfl, ?_⟩) hHeld ?_
          rotate_left
          · rintro w' ⟨c1, c2⟩; go_simp; rfl
          try simp only [Act.put, List.setIfInBounds_toArray, List.set_cons_zero, List.set_cons_succ]
          refine takeL (i := 2) (v := ?_) rfl (by kernel_rfl) (by kernel_rfl) (by kernel_rfl) (fun _ _ _ h => h) (Or.inl ⟨by rfl, ?_⟩) hHeld ?_
          rotate_left
          · rintro w' ⟨c1, c2⟩; go_simp; rfl
          try simp only [Act.put, List.setIfInBounds_toArray, List.set_cons_zero, List.set_cons_succ]
          refine takeL (i := 3) (v := ?_) rfl (by kernel_rfl) (by kernel_rfl) (by kernel_rfl) (fun _ _ _ h => h) (Or.inl ⟨by rfl, ?_⟩) hHeld ?_
          rotate_left
          · rintro w' ⟨c1, c2⟩; go_simp; rfl
          try simp only [Act.put, List.setIfInBounds_toArray, List.set_cons_zero, List.set_cons_succ]
          refine takeL (i := 4) (v := ?_) rfl (by kernel_rfl) (by kernel_rfl) (by kernel_rfl) (fun _ _ _ h => h) (Or.inl ⟨by rfl, ?_⟩) hHeld ?_
          rotate_left
          · rintro w' ⟨c1, c2⟩; go_simp; rfl
          try simp only [Act.put, List.setIfInBounds_toArray, List.set_cons_zero, List.set_cons_succ]
          refine takeL (i := 5) (v := ?_) rfl (by kernel_rfl) (by kernel_rfl) (by kernel_rfl) (fun _ _ _ h => h) (Or.inl ⟨by kernel_rfl, ?_⟩) hHeld ?_
          rotate_left
          · rintro w' ⟨c1, c2⟩; go_simp; rfl
          try simp only [Act.put, List.setIfInBounds_toArray, List.set_cons_zero, List.set_cons_succ]
          refine takeL (i := 6) (v := ?_) rfl (by kernel_rfl) (by kernel_rfl) (by kernel_rfl) (fun _ _ _ h => h) (Or.inl ⟨by kernel_rfl, ?_⟩) hHeld ?_
          rotate_left
          · rintro w' ⟨c1, c2⟩; go_simp; rfl
          try simp only [Act.put, List.setIfInBounds_toArray, List.set_cons_zero, List.set_cons_succ]
          refine takeL (i := 7) (v := ?_) rfl (by kernel_rfl) (by kernel_rfl) (by kernel_rfl) (fun _ _ _ h => h) (Or.inl ⟨by kernel_rfl, ?_⟩) hHeld ?_
          rotate_left
          · rintro w' ⟨c1, c2⟩; go_simp; rfl
          try simp only [Act.put, List.setIfInBounds_toArray, List.set_cons_zero, List.set_cons_succ]
          refine takeL (i := 8) (v := ?_) rfl (by kernel_rfl) (by kernel_rfl) (by kernel_rfl) (fun _ _ _ h => h) (Or.inl ⟨by kernel_rfl, ?_⟩) hHeld ?_
          rotate_left
          · rintro w' ⟨c1, c2⟩; go_simp; rfl
          try simp only [Act.put, List.setIfInBounds_toArray, List.set_cons_zero, List.set_cons_succ]
          refine takeL (i := 9) (v := ?_) rfl (by kernel_rfl) (by kernel_rfl) (by kernel_rfl) (fun _ _ _ h => h) (Or.inl ⟨by kernel_rfl, ?_⟩) hHeld ?_
          rotate_left
          · rintro w' ⟨c1, c2⟩; go_simp; rfl
          try simp only [Act.put, List.setIfInBounds_toArray, List.set_cons_zero, List.set_cons_succ]
          refine takeL (i := 10) (v := .string SY) rfl (by kernel_rfl) (by kernel_rfl) (by kernel_rfl) (fun _ _ _ h => h) (Or.inl ⟨by kernel_rfl, ?_⟩) hHeld ?_
          · rintro w' ⟨c1, c2⟩; go_simp; try rfl
          try simp only [Act.put, List.setIfInBounds_toArray, List.set_cons_zero, List.set_cons_succ]
          refine takeL (i := 11) (v := ?_) rfl (by kernel_rfl) (by kernel_rfl) (by kernel_rfl) (fun _ _ _ h => h) (Or.inl ⟨by kernel_rfl, ?_⟩) hHeld ?_
          rotate_left
          · rintro w' ⟨c1, c2⟩; go_simp; rfl
          try simp only [Act.put, List.setIfInBounds_toArray, List.set_cons_zero, List.set_cons_succ]
          refine takeL (i := 12) (v := ?_) rfl (by kernel_rfl) (by kernel_rfl) (by kernel_rfl) (fun _ _ _ h => h) (Or.inl ⟨by kernel_rfl, ?_⟩) hHeld ?_
          rotate_left
          · rintro w' ⟨c1, c2⟩; go_simp; rfl
          try simp only [Act.put, List.setIfInBounds_toArray, List.set_cons_zero, List.set_cons_succ]
          refine takeL (i := 13) (v := ?_) rfl (by kernel_rfl) (by kernel_rfl) (by kernel_rfl) (fun _ _ _ h => h) (Or.inl ⟨by kernel_rfl, ?_⟩) hHeld ?_
          rotate_left
          · rintro w' ⟨c1, c2⟩; go_simp; rfl
          try simp only [Act.put, List.setIfInBounds_toArray, List.set_cons_zero, List.set_cons_succ]
          refine takeL (i := 14) (v := ?_) rfl (by kernel_rfl) (by kernel_rfl) (by kernel_rfl) (fun _ _ _ h => h) (Or.inl ⟨by kernel_rfl, ?_⟩) hHeld ?_
          rotate_left
          · rintro w' ⟨c1, c2⟩; go_simp; rfl
          try simp only [Act.put, List.setIfInBounds_toArray, List.set_cons_zero, List.set_cons_succ]
          refine takeL (i := 15) (v := ?_) rfl (by kernel_rfl) (by kernel_rfl) (by kernel_rfl) (fun _ _ _ h => h) (Or.inl ⟨by kernel_rfl, ?_⟩) hHeld ?_
          rotate_left
          · rintro w' ⟨c1, c2⟩; go_simp; rfl
          try simp only [Act.put, List.setIfInBounds_toArray, List.set_cons_zero, List.set_cons_succ]
          refine takeL (i := 16) (v := .string SX) rfl (by kernel_rfl) (by kernel_rfl) (by kernel_rfl) (fun _ _ _ h => h) (Or.inl ⟨by kernel_rfl, ?_⟩) hHeld ?_
          · rintro w' ⟨c1, c2⟩; go_simp; try rfl
          try simp only [Act.put, List.setIfInBounds_toArray, List.set_cons_zero, List.set_cons_succ]
          refine takeL (i := 17) (v := .bool bb) rfl (by kernel_rfl) (by kernel_rfl) (by kernel_rfl) (fun _ _ _ h => h) (Or.inl ⟨by kernel_rfl, ?_⟩) hHeld ?_
          · rintro w' ⟨c1, c2⟩; go_simp; try rfl
          try simp only [Act.put, List.setIfInBounds_toArray, List.set_cons_zero, List.set_cons_succ]
          refine takeL (i := 18) (v := .bool bb) rfl (by kernel_rfl) (by kernel_rfl) (by kernel_rfl) (fun _ _ _ h => h) (Or.inl ⟨by rfl, ?_⟩) hHeld ?_
          · rintro w' ⟨c1, c2⟩; go_simp; try rfl
          try simp only [Act.put, List.setIfInBounds_toArray, List.set_cons_zero, List.set_cons_succ]
          refine wpAnyH_done (by kernel_rfl) ?_ _
          clear hHeld hcmp
          obtain ⟨HBQ, -⟩ : Hid (Bp 48 w u0 G (.slice (some ⟨b1, off1, none⟩) i vc) L) ∧ True := ⟨HBQ0, trivial⟩
          clear HBQ0
          cases bb with
          | true =>
            have HNL : Hid (Lib.bytesOf y.id < Lib.bytesOf x.id) := hid (of_decide_eq_true HBB.out)
            go_wp2
            go_roundg (i - (j + 1))
            case measure => omega
            case rel =>
              refine ⟨j + 1, by omega, rfl, by go_num, HBQ, hid (fun k hk => ?_)⟩
              by_cases hkj2 : k < j
              · exact HLE.out k hkj2
              · have : k = j := by omega
                subst this
                rw [HY.out]; exact HNL.out
          | false =>
            have HST : Hid (j = i ∨ ¬ Lib.bytesOf (L.getD j p0).id < Lib.bytesOf x.id) := hid (.inr (by
              rw [HY.out]
              exact of_decide_eq_false HBB.out))
            obtain ⟨va, HVA⟩ : ∃ va : Option Addr, va = some ⟨b1, off1, none⟩ := ⟨_, rfl⟩
            rw [← HVA] at HBQ HPV
            rw [← HVA]
            clear HVA
            obtain ⟨B2, HB2⟩ : ∃ B, Hid (u0.heap.size = B) := ⟨_, rfl⟩
            have hGB2 : G ≤ B2 := by rw [← HB2.out]; exact HBQ.out.le
            have HPQ : Hid (∀ W', Below B2 u0 W' → Pp W' va vc L) := fun W' hW' => (HPV.out _ HBQ.out).below (by rw [HB2.out]; exact hW')
            have HPX : Hid (∀ W', Below B2 u0 W' → W'.rangeAt b (off + i * 22) R) := fun W' hW' => HRR.out W' (HBQ.out.below.trans (hW'.mono hGB2))
            have HNEW : Hid (insP x L = L.take j ++ x :: L.drop j) := hid (insP_at x L j (by rw [HLL.out]; exact hj) HLE.out (by rw [HLL.out]; exact HST.out))
            have HL1 : Hid ((L.take j).length = j) := hid (by rw [List.length_take, HLL.out]; omega)
            have HL2 : Hid ((L.drop j).length = i - j) := hid (by rw [List.length_drop, HLL.out])
            have HW1 : Hid (∀ y ∈ L.take j, y.id.length = 20) := fun y hy => HLW.out y (List.mem_of_mem_take hy)
            have HW2 : Hid (∀ y ∈ L.drop j, y.id.length = 20) := fun y hy => HLW.out y (List.mem_of_mem_drop hy)
            have hcapj : j ≤ vc := by have := (HPV.out _ HBQ.out).capl; rw [HLL.out] at this; omega
            have hcapi : i ≤ vc := by have := (HPV.out _ HBQ.out).capl; rw [HLL.out] at this; omega
            have hsl1 : ∀ W', (Instr.slice 33 (.slice va i vc) none (some (.int .i64 j)) none).run Tryd.prog W' = .ok (.slice va j vc) W' := fun W' => slP_to va i vc j hcapj W'
            have hsl2 : ∀ W', (Instr.slice 33 (.slice va i vc) (some (.int .i64 j)) none none).run Tryd.prog W' = .ok (.slice (adr va vc j) (i - j) (vc - j)) W' := fun W' => slP_from va i vc j hj W'
            obtain ⟨a3, HA3⟩ : ∃ a, Hid (adr va vc j = a) := ⟨_, rfl⟩
            have HP3 : Hid (∀ W', Below B2 u0 W' → Pp W' a3 (vc - j) (L.drop j)) := fun W' hW' => by rw [← HA3.out]; exact (HPQ.out W' hW').drop j (by rw [HLL.out]; exact hj)
            simp only [HA3.out] at hsl2
            have HB0 : Hid (Bp 48 u0 u0 B2 (.slice none 0 0) []) := hid (bp_nil 48 u0 B2 (by rw [HB2.out]; exact Nat.le_refl _))
            go_wp2_with (first
              | (at_builtin; refine wpList_bp_sl rfl _ _ 33 48 Tryd.underlying33 Tryd.info48p rfl B2 _ _ rfl HB0.out va vc (L.take j) (by rw [HL1.out]; rfl) ((HPQ.out _ (Below.refl _ _)).take j (by rw [HLL.out]; exact hj)) HW1.out (by rw [HL1.out]; simp; omega) ?_; intro v1 w1 hb1 hg1; have HBE1 : Hid (Bp 48 u0 w1 B2 v1 ([] ++ L.take j)) := hb1; clear hb1 hg1; have RX : Hid (w1.rangeAt b (off + i * 22) R) := hid (HPX.out _ HBE1.out.below))
              | refine wpList_load_mid rfl 48 _ rfl b (off + i * 22) rfl R _ RX.out Tryd.underlying48 rfl hi48 ?_
              | refine wpList_buildS rfl 33 1 _ rfl (.agg R.toArray) _ rfl (by rw [← HR.out]; exact run_build48 x HX20.out _) ?_
              | (at_builtin; refine wpList_bp_sl rfl _ _ 33 48 Tryd.underlying33 Tryd.info48p rfl B2 _ _ rfl (HBE1.out.alloc _) (some ⟨w1.heap.size, 0, none⟩) 1 [x] rfl (pp_one w1 x) HX1.out (by simp only [List.nil_append, HL1.out, List.length_cons, List.length_nil]; omega) ?_; intro v2 w2 hb2 hg2; have HBE2 : Hid (Bp 48 u0 w2 B2 v2 (([] ++ L.take j) ++ [x])) := hb2; clear hb2 hg2)
              | (at_builtin; refine wpList_bp_sl rfl _ _ 33 48 Tryd.underlying33 Tryd.info48p rfl B2 _ _ rfl HBE2.out a3 (vc - j) (L.drop j) (by rw [HL2.out]; rfl) (HP3.out _ HBE2.out.below) HW2.out (by simp only [List.nil_append, List.length_append, HL1.out, HL2.out, List.length_cons, List.length_nil]; omega) ?_; intro v3 w3 hb3 hg3; have HBE3 : Hid (Bp 48 u0 w3 B2 v3 ((([] ++ L.take j) ++ [x]) ++ L.drop j)) := hb3; clear hb3 hg3)
              | fail)
            go_roundg (n - (i + 1))
            case measure => omega
            case rel =>
              refine ⟨i + 1, v3, rfl, by omega, rfl, by go_num, hid ?_⟩
              have h3 := HBE3.out
              rw [List.nil_append, List.append_assoc, List.singleton_append, ← HNEW.out, ← HL.out, ← HXX.out, ← srtI_snoc, ← take_snocP2 es i (by rw [HN.out]; exact hlt)] at h3
              exact ⟨HBQ.out.below.trans (h3.below.mono hGB2), base_mono h3.own hGB2, Nat.le_trans HBQ.out.le (by rw [HB2.out]; exact h3.le)⟩
        · have hjii : ¬ (j : Int) < (i : Int) := by omega
          have hje : j = i := by omega
          have HST : Hid (j = i ∨ ¬ Lib.bytesOf (L.getD j p0).id < Lib.bytesOf x.id) := hid (.inl hje)
          clear hje
          go_wp2_with fail
          go_quiet (fail)
          have HBQ' : Hid (Bp 48 w (wr.drewN nq) G (.slice va i vc) L) := hid (HBQ.out.carry (below_drewH (Below.refl _ _) nq))
          clear HBQ
          generalize wr.drewN nq = WQ at HBQ' ⊢
          have HBQ : Hid (Bp 48 w WQ G (.slice va i vc) L) := HBQ'
          clear HBQ'
          obtain ⟨B2, HB2⟩ : ∃ B, Hid (WQ.heap.size = B) := ⟨_, rfl⟩
          have hGB2 : G ≤ B2 := by rw [← HB2.out]; exact HBQ.out.le
          have HPQ : Hid (∀ W', Below B2 WQ W' → Pp W' va vc L) := fun W' hW' => (HPV.out _ HBQ.out).below (by rw [HB2.out]; exact hW')
          have HPX : Hid (∀ W', Below B2 WQ W' → W'.rangeAt b (off + i * 22) R) := fun W' hW' => HRR.out W' (HBQ.out.below.trans (hW'.mono hGB2))
          have HNEW : Hid (insP x L = L.take j ++ x :: L.drop j) := hid (insP_at x L j (by rw [HLL.out]; exact hj) HLE.out (by rw [HLL.out]; exact HST.out))
          have HL1 : Hid ((L.take j).length = j) := hid (by rw [List.length_take, HLL.out]; omega)
          have HL2 : Hid ((L.drop j).length = i - j) := hid (by rw [List.length_drop, HLL.out])
          have HW1 : Hid (∀ y ∈ L.take j, y.id.length = 20) := fun y hy => HLW.out y (List.mem_of_mem_take hy)
          have HW2 : Hid (∀ y ∈ L.drop j, y.id.length = 20) := fun y hy => HLW.out y (List.mem_of_mem_drop hy)
          have hcapj : j ≤ vc := by have := (HPV.out _ HBQ.out).capl; rw [HLL.out] at this; omega
          have hcapi : i ≤ vc := by have := (HPV.out _ HBQ.out).capl; rw [HLL.out] at this; omega
          have hsl1 : ∀ W', (Instr.slice 33 (.slice va i vc) none (some (.int .i64 j)) none).run Tryd.prog W' = .ok (.slice va j vc) W' := fun W' => slP_to va i vc j hcapj W'
          have hsl2 : ∀ W', (Instr.slice 33 (.slice va i vc) (some (.int .i64 j)) none none).run Tryd.prog W' = .ok (.slice (adr va vc j) (i - j) (vc - j)) W' := fun W' => slP_from va i vc j hj W'
          obtain ⟨a3, HA3⟩ : ∃ a, Hid (adr va vc j = a) := ⟨_, rfl⟩
          have HP3 : Hid (∀ W', Below B2 WQ W' → Pp W' a3 (vc - j) (L.drop j)) := fun W' hW' => by rw [← HA3.out]; exact (HPQ.out W' hW').drop j (by rw [HLL.out]; exact hj)
          simp only [HA3.out] at hsl2
          have HB0 : Hid (Bp 48 WQ WQ B2 (.slice none 0 0) []) := hid (bp_nil 48 WQ B2 (by rw [HB2.out]; exact Nat.le_refl _))
          go_wp2_with (first
            | (at_builtin; refine wpList_bp_sl rfl _ _ 33 48 Tryd.underlying33 Tryd.info48p rfl B2 _ _ rfl HB0.out va vc (L.take j) (by rw [HL1.out]; rfl) ((HPQ.out _ (Below.refl _ _)).take j (by rw [HLL.out]; exact hj)) HW1.out (by rw [HL1.out]; simp; omega) ?_; intro v1 w1 hb1 hg1; have HBE1 : Hid (Bp 48 WQ w1 B2 v1 ([] ++ L.take j)) := hb1; clear hb1 hg1; have RX : Hid (w1.rangeAt b (off + i * 22) R) := hid (HPX.out _ HBE1.out.below))
            | refine wpList_load_mid rfl 48 _ rfl b (off + i * 22) rfl R _ RX.out Tryd.underlying48 rfl hi48 ?_
            | refine wpList_buildS rfl 33 1 _ rfl (.agg R.toArray) _ rfl (by rw [← HR.out]; exact run_build48 x HX20.out _) ?_
            | (at_builtin; refine wpList_bp_sl rfl _ _ 33 48 Tryd.underlying33 Tryd.info48p rfl B2 _ _ rfl (HBE1.out.alloc _) (some ⟨w1.heap.size, 0, none⟩) 1 [x] rfl (pp_one w1 x) HX1.out (by simp only [List.nil_append, HL1.out, List.length_cons, List.length_nil]; omega) ?_; intro v2 w2 hb2 hg2; have HBE2 : Hid (Bp 48 WQ w2 B2 v2 (([] ++ L.take j) ++ [x])) := hb2; clear hb2 hg2)
            | (at_builtin; refine wpList_bp_sl rfl _ _ 33 48 Tryd.underlying33 Tryd.info48p rfl B2 _ _ rfl HBE2.out a3 (vc - j) (L.drop j) (by rw [HL2.out]; rfl) (HP3.out _ HBE2.out.below) HW2.out (by simp only [List.nil_append, List.length_append, HL1.out, HL2.out, List.length_cons, List.length_nil]; omega) ?_; intro v3 w3 hb3 hg3; have HBE3 : Hid (Bp 48 WQ w3 B2 v3 ((([] ++ L.take j) ++ [x]) ++ L.drop j)) := hb3; clear hb3 hg3)
            | fail)
          go_roundg (n - (i + 1))
          case measure => omega
          case rel =>
            refine ⟨i + 1, v3, rfl, by omega, rfl, by go_num, hid ?_⟩
            have h3 := HBE3.out
            rw [List.nil_append, List.append_assoc, List.singleton_append, ← HNEW.out, ← HL.out, ← HXX.out, ← srtI_snoc, ← take_snocP2 es i (by rw [HN.out]; exact hlt)] at h3
            exact ⟨HBQ.out.below.trans (h3.below.mono hGB2), base_mono h3.own hGB2, Nat.le_trans HBQ.out.le (by rw [HB2.out]; exact h3.le)⟩
    · have hlti : ¬ (i : Int) < (n : Int) := by omega
      have hin : i = n := by omega
      have HEN : Hid (es.take i = es) := hid (List.take_of_length_le (by rw [HN.out]; omega))
      have HBZ : Hid (Bp 48 w wr G v (srtI es)) := hid (by have := HBE.out; rw [HEN.out] at this; exact this)
      have HSN : Hid ((srtI es).length = n) := hid (by rw [(srtI_both es).1.length_eq]; exact HN.out)
      obtain ⟨va, vc, hv⟩ : ∃ va vc, v = .slice va n vc := by
        have ho := HBZ.out.own
        rw [HSN.out] at ho
        exact owns_shape ho
      subst hv
      have HPZ : Hid (Pp wr va vc (srtI es)) := hid (HBZ.out.pp (fun y hy => HWF.out y ((srtI_both es).1.subset hy)) HSN.out).1
      clear hin
      go_wp2
      go_ret
      exact ⟨by rw [HG.out]; exact HBZ.out.below, va, vc, rfl, HPZ.out⟩
end Go.Proofs.YtdfihfmmfmoabaaDoor
