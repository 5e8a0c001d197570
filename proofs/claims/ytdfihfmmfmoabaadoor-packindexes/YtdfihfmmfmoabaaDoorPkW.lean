/- The law's 'places' and 'samePlaces'. -/
import Derived.Test.YtdfihfmmfmoabaaDoorPkS
namespace Go.Proofs.YtdfihfmmfmoabaaDoor
open Go.RowKit Go.Shelf
variable [Inhabited Pn]
set_option linter.unusedVariables false
set_option linter.unusedSectionVars false
set_option linter.unusedSimpArgs false
/-- What a drawn region reads of a place. -/
structure QE (b o : Nat) (m c : Int) (RI : List Value) (W : World) : Prop where
  r0 : W.rangeAt b o RI
  c20 : W.cell? ⟨b, o + 20, none⟩ = some (.int .i64 m)
  c21 : W.cell? ⟨b, o + 21, none⟩ = some (.int .u32 c)
theorem qe_of {W : World} {b o : Nat} {x : Pl} (h : W.rangeAt b o (plV x)) (hx : x.id.length = 20) : QE b o x.off x.crc (row .u8 x.id) W := ⟨pl_id h, pl_off h hx, pl_crc h hx⟩
set_option maxRecDepth 20000 in
theorem built48 (x : Pl) (h : x.id.length = 20) : Tryd.prog.built 48 [(0, .agg (row .u8 x.id).toArray), (1, .int .i64 x.off), (2, .int .u32 x.crc)] = some (plV x).toArray := by
  obtain ⟨id, o, c⟩ := x
  obtain ⟨a0, a1, a2, a3, a4, a5, a6, a7, a8, a9, a10, a11, a12, a13, a14, a15, a16, a17, a18, a19, rfl⟩ := list20 id h
  kernel_rfl
theorem exec_build {P : Program} {o : Oper} {a : Act} {w : World} (t : TypeId) (parts : Array (Nat × Operand)) (ho : o.op = .build t parts) (cells : Array Value) (h : P.built t (parts.map fun (i, x) => (i, a.eval x)).toList = some cells) : (execOp a.eval o).run P w = .ok (.value (.agg cells)) w := by
  have hr := run_build (P := P) w t (parts.map fun (i, x) => (i, a.eval x)) cells h
  unfold execOp
  simp only [ho, Sem.run_bind, hr, Result.andThen_ok, Sem.run_pure]
theorem exec_buildS {P : Program} {o : Oper} {a : Act} {w w' : World} (t len : Nat) (x : Operand) (ho : o.op = .buildSlice t len #[(0, x)]) (u v : Value) (hx : a.eval x = u) (hr : (Instr.buildSlice t len #[(0, u)]).run P w = .ok v w') : (execOp a.eval o).run P w = .ok (.value v) w' := by
  unfold execOp
  simp [ho, hx, hr, Result.andThen]
theorem Bp.one {w0 w : World} {B : Nat} {v : Value} {es : List Pl} (h : Bp 48 w0 w B v es) (b : Nat) (y : Pl) (hb : w.rangeAt b 0 (plV y)) (hy : y.id.length = 20) (hl : es.length ≤ 3000) (ty : TypeId) :
    ∃ v' w', (Builtin.append_ #[33, 33] ty #[v, .slice (some ⟨b, 0, none⟩) 1 1]).run Tryd.prog w = .ok v' w' ∧ Bp 48 w0 w' B v' (es ++ [y]) := by
  obtain ⟨i, hi, hz0, hz1, hz2⟩ := info_parts Tryd.info48p
  obtain ⟨v', w', hr, h1, h2, _⟩ := run_append_own_at (P := Tryd.prog) w B 33 ty 48 i (.agg (plV p0).toArray) 22 40 Tryd.underlying33 hi hz0 hz1 hz2 rfl (by decide) v _ _ h.own ⟨b, 0, none⟩ 1 1 (plV y) (by rw [plV_len y hy]) (fun j u hj => by rw [addr_add]; exact hb j u hj) (plV_one y) (by unfold maxLen; omega) (by omega) h.le
  refine ⟨v', w', hr, h.below.grown h2 h.le (fun k hk => (own_lt h.own k hk).1), ?_, Nat.le_trans h.le h2.size⟩
  rw [List.length_append, List.flatMap_append]
  simpa using h1
set_option maxRecDepth 20000 in
set_option maxHeartbeats 4000000 in
theorem places_any (a : Option Addr) (cap : Nat) (es : List Pl) (hwf : ∀ x ∈ es, x.id.length = 20) (hn : es.length ≤ 1000) (w : World) (hP : Pp w a cap es) :
    Calls Tryd.prog 5 #[.slice a es.length cap] w fun e w' => Below w.heap.size w w' ∧ ∃ a' cap', e = .returned (.slice a' es.length cap') ∧ Pp w' a' cap' es := by
  obtain ⟨n, HN⟩ : ∃ n, Hid (es.length = n) := ⟨_, rfl⟩
  obtain ⟨G, HG⟩ : ∃ G, Hid (w.heap.size = G) := ⟨_, rfl⟩
  have hnn : n ≤ 1000 := by rw [← HN.out]; exact hn
  have HPA : Hid (∀ W, Below G w W → Pp W a cap es) := fun W hW => hP.below (by rw [HG.out]; exact hW)
  have HPL : Hid (0 < n → ∃ b off, a = some ⟨b, off, none⟩ ∧ b < G) := fun h0 => by
    obtain ⟨b, off, e1, e2, _⟩ := hP.at_ (by rw [HN.out]; exact h0)
    exact ⟨b, off, e1, by rw [← HG.out]; exact e2⟩
  have HWF : Hid (∀ x ∈ es, x.id.length = 20) := hwf
  have HE0 : Hid (Bp 48 w w G (.slice none 0 0) (es.take 0)) := hid (bp_nil 48 w G (by rw [HG.out]; exact Nat.le_refl _))
  rw [HN.out]
  clear hP hwf
  go_enter Tryd.func5, Tryd.ntmps5
  go_wp2_with fail
  go_loopg [3, 4] n (fun g u iv wr => ∃ (i : Nat) (v : Value), v = u ∧ i ≤ n ∧ g = n - i ∧ iv = .int .i64 i ∧ Hid (Bp 48 w wr G v (es.take i)))
  case atStart => exact ⟨0, _, rfl, Nat.zero_le _, rfl, rfl, HE0⟩
  case round =>
    obtain ⟨i, v, hv, hi, hk, rfl, HBE⟩ := hrel
    subst hv
    by_cases hlt : i < n
    · have hlti : (i : Int) < (n : Int) := by omega
      obtain ⟨b, off, hae, hbG⟩ := HPL.out (by omega)
      subst hae
      obtain ⟨x, HX⟩ : ∃ x, Hid (es.getD i p0 = x) := ⟨_, rfl⟩
      have hxm : x ∈ es := by
        rw [← HX.out, List.getD_eq_getElem?_getD, List.getElem?_eq_getElem (by rw [HN.out]; exact hlt)]
        exact List.getElem_mem _
      have HX20 : Hid (x.id.length = 20) := HWF.out x hxm
      obtain ⟨m, HM⟩ : ∃ m, Hid (x.off = m) := ⟨_, rfl⟩
      obtain ⟨c, HC⟩ : ∃ m, Hid (x.crc = m) := ⟨_, rfl⟩
      obtain ⟨RI, HRI⟩ : ∃ R, Hid (row .u8 x.id = R) := ⟨_, rfl⟩
      obtain ⟨R, HR⟩ : ∃ R : List Value, Hid (plV x = R) := ⟨_, rfl⟩
      have HQ : Hid (∀ W, Below G w W → QE b (off + i * 22) m c RI W) := fun W hW => by
        obtain ⟨b', off', e1, e2, e3⟩ := (HPA.out W hW).at_ (by rw [HN.out]; omega)
        cases e1
        have := qe_of (e3 i (by rw [HN.out]; exact hlt)) (by rw [HX.out]; exact HX20.out)
        rw [HX.out, HM.out, HC.out, HRI.out] at this
        exact this
      have hi24 : (Tryd.prog.info? 24).map (·.size) = some RI.length := by rw [← HRI.out, row_len, HX20.out]; exact Tryd.size24'
      have HBU : Hid (Tryd.prog.built 48 [(0, .agg RI.toArray), (1, .int .i64 m), (2, .int .u32 c)] = some R.toArray) := hid (by
        rw [← HM.out, ← HC.out, ← HRI.out, ← HR.out]; exact built48 x HX20.out)
      have HBd : Hid (Bp 48 w wr.drew G v (es.take i)) := hid (HBE.out.carry (below_drewH (Below.refl _ _) 1))
      have hiL : (es.take i).length ≤ 3000 := by rw [List.length_take, HN.out]; omega
      clear hxm
      go_wp2_with fail
      refine wp_region_held_drew (S := QE b (off + i * 22) m c RI) (by kernel_rfl) (by exact HQ.out _ HBd.out.below) (fun hHeld => ?_)
      generalize wr.drew = u0 at hHeld HBd ⊢
      refine takeL (i := 0) (v := ?_) rfl (by kernel_rfl) (by kernel_rfl) (by kernel_rfl) (fun _ _ _ h => h) (Or.inl ⟨by rfl, ?_⟩) hHeld ?_
      rotate_left
      · rintro w' ⟨r0, c20, c21⟩; go_simp; rfl
      try simp only [Act.put, List.setIfInBounds_toArray, List.set_cons_zero, List.set_cons_succ]
      refine takeL (i := 1) (v := ?_) rfl (by kernel_rfl) (by kernel_rfl) (by kernel_rfl) (fun _ _ _ h => h) (Or.inl ⟨by rfl, ?_⟩) hHeld ?_
      rotate_left
      · rintro w' ⟨r0, c20, c21⟩; go_simp; rfl
      try simp only [Act.put, List.setIfInBounds_toArray, List.set_cons_zero, List.set_cons_succ]
      refine takeL (i := 2) (v := ?_) rfl (by kernel_rfl) (by kernel_rfl) (by kernel_rfl) (fun _ _ _ h => h) (Or.inl ⟨by rfl, ?_⟩) hHeld ?_
      rotate_left
      · rintro w' ⟨r0, c20, c21⟩; go_simp; rfl
      try simp only [Act.put, List.setIfInBounds_toArray, List.set_cons_zero, List.set_cons_succ]
      refine takeL (i := 3) (v := ?_) rfl (by kernel_rfl) (by kernel_rfl) (by kernel_rfl) (fun _ _ _ h => h) (Or.inl ⟨by rfl, ?_⟩) hHeld ?_
      rotate_left
      · rintro w' ⟨r0, c20, c21⟩; go_simp; rfl
      try simp only [Act.put, List.setIfInBounds_toArray, List.set_cons_zero, List.set_cons_succ]
      refine takeL (i := 4) (v := ?_) rfl (by kernel_rfl) (by kernel_rfl) (by kernel_rfl) (fun _ _ _ h => h) (Or.inl ⟨by rfl, ?_⟩) hHeld ?_
      rotate_left
      · rintro w' ⟨r0, c20, c21⟩; go_simp; rfl
      try simp only [Act.put, List.setIfInBounds_toArray, List.set_cons_zero, List.set_cons_succ]
      refine takeL (i := 5) (v := .agg RI.toArray) rfl (by kernel_rfl) (by kernel_rfl) (by kernel_rfl) (fun _ _ _ h => h) (yieldsIf_load_mid (by kernel_rfl) 24 _ rfl b (off + i * 22) (by rfl) RI _ (fun w' h => h.r0) Tryd.underlying24 rfl hi24) hHeld ?_
      try simp only [Act.put, List.setIfInBounds_toArray, List.set_cons_zero, List.set_cons_succ]
      refine takeL (i := 6) (v := ?_) rfl (by kernel_rfl) (by kernel_rfl) (by kernel_rfl) (fun _ _ _ h => h) (Or.inl ⟨by rfl, ?_⟩) hHeld ?_
      rotate_left
      · rintro w' ⟨r0, c20, c21⟩; go_simp; rfl
      try simp only [Act.put, List.setIfInBounds_toArray, List.set_cons_zero, List.set_cons_succ]
      refine takeL (i := 7) (v := ?_) rfl (by kernel_rfl) (by kernel_rfl) (by kernel_rfl) (fun _ _ _ h => h) (Or.inl ⟨by rfl, ?_⟩) hHeld ?_
      rotate_left
      · rintro w' ⟨r0, c20, c21⟩; go_simp; rfl
      try simp only [Act.put, List.setIfInBounds_toArray, List.set_cons_zero, List.set_cons_succ]
      refine takeL (i := 8) (v := ?_) rfl (by kernel_rfl) (by kernel_rfl) (by kernel_rfl) (fun _ _ _ h => h) (Or.inl ⟨by rfl, ?_⟩) hHeld ?_
      rotate_left
      · rintro w' ⟨r0, c20, c21⟩; go_simp; rfl
      try simp only [Act.put, List.setIfInBounds_toArray, List.set_cons_zero, List.set_cons_succ]
      refine takeL (i := 9) (v := ?_) rfl (by kernel_rfl) (by kernel_rfl) (by kernel_rfl) (fun _ _ _ h => h) (Or.inl ⟨by rfl, ?_⟩) hHeld ?_
      rotate_left
      · rintro w' ⟨r0, c20, c21⟩; go_simp; rfl
      try simp only [Act.put, List.setIfInBounds_toArray, List.set_cons_zero, List.set_cons_succ]
      refine takeL (i := 10) (v := ?_) rfl (by kernel_rfl) (by kernel_rfl) (by kernel_rfl) (fun _ _ _ h => h) (Or.inl ⟨by rfl, ?_⟩) hHeld ?_
      rotate_left
      · rintro w' ⟨r0, c20, c21⟩; go_simp; rfl
      try simp only [Act.put, List.setIfInBounds_toArray, List.set_cons_zero, List.set_cons_succ]
      refine takeL (i := 11) (v := ?_) rfl (by kernel_rfl) (by kernel_rfl) (by kernel_rfl) (fun _ _ _ h => h) (Or.inl ⟨by rfl, ?_⟩) hHeld ?_
      rotate_left
      · rintro w' ⟨r0, c20, c21⟩; go_simp; rfl
      try simp only [Act.put, List.setIfInBounds_toArray, List.set_cons_zero, List.set_cons_succ]
      refine takeL (i := 12) (v := ?_) rfl (by kernel_rfl) (by kernel_rfl) (by kernel_rfl) (fun _ _ _ h => h) (Or.inl ⟨by rfl, ?_⟩) hHeld ?_
      rotate_left
      · rintro w' ⟨r0, c20, c21⟩; go_simp; rfl
      try simp only [Act.put, List.setIfInBounds_toArray, List.set_cons_zero, List.set_cons_succ]
      refine takeL (i := 13) (v := ?_) rfl (by kernel_rfl) (by kernel_rfl) (by kernel_rfl) (fun _ _ _ h => h) (Or.inl ⟨by rfl, ?_⟩) hHeld ?_
      rotate_left
      · rintro w' ⟨r0, c20, c21⟩; go_simp; rfl
      try simp only [Act.put, List.setIfInBounds_toArray, List.set_cons_zero, List.set_cons_succ]
      refine takeL (i := 14) (v := ?_) rfl (by kernel_rfl) (by kernel_rfl) (by kernel_rfl) (fun _ _ _ h => h) (Or.inl ⟨by rfl, ?_⟩) hHeld ?_
      rotate_left
      · rintro w' ⟨r0, c20, c21⟩; go_simp; rfl
      try simp only [Act.put, List.setIfInBounds_toArray, List.set_cons_zero, List.set_cons_succ]
      refine takeL (i := 15) (v := ?_) rfl (by kernel_rfl) (by kernel_rfl) (by kernel_rfl) (fun _ _ _ h => h) (Or.inl ⟨by rfl, ?_⟩) hHeld ?_
      rotate_left
      · rintro w' ⟨r0, c20, c21⟩; go_simp; rfl
      try simp only [Act.put, List.setIfInBounds_toArray, List.set_cons_zero, List.set_cons_succ]
      refine takeL (i := 16) (v := .agg R.toArray) rfl (by kernel_rfl) (by kernel_rfl) (by kernel_rfl) (fun _ _ _ h => h) (Or.inl ⟨by rfl, fun w' _ => ?_⟩) hHeld ?_
      · exact exec_build 48 _ rfl R.toArray (by simp only [List.map_toArray, List.map_cons, List.map_nil]; exact HBU.out)
      try simp only [Act.put, List.setIfInBounds_toArray, List.set_cons_zero, List.set_cons_succ]
      obtain ⟨u1, HU1⟩ : ∃ u1, Hid (u0.alloc (.cells R.toArray 48) = u1) := ⟨_, rfl⟩
      obtain ⟨q, HQB⟩ : ∃ q, Hid (u0.heap.size = q) := ⟨_, rfl⟩
      have HBE1 : Hid (Bp 48 w u1 G v (es.take i)) := hid (by rw [← HU1.out]; exact HBd.out.alloc _)
      have R1 : Hid (u1.rangeAt q 0 (plV x)) := hid (by rw [HR.out, ← HU1.out, ← HQB.out]; exact range_row (heap_alloc_new u0 _))
      refine wpAnyH_ready (rs := [17]) (by kernel_rfl) (by simp) ?_
      refine consL rfl (fun KK hKK => ?_) AllReadyH.nil
      refine step_exec (by rfl) (.slice (some ⟨q, 0, none⟩) 1 1) (w' := u1) (by
        have hb := run_build48 x HX20.out u0
        rw [HR.out, HU1.out, HQB.out] at hb
        exact exec_buildS 33 1 _ rfl (.agg R.toArray) _ rfl hb) ?_
      refine hKK.out _ _ (HQ.out _ HBE1.out.below) (fun hHeld => ?_)
      clear hKK KK
      try simp only [Act.put, List.setIfInBounds_toArray, List.set_cons_zero, List.set_cons_succ]
      obtain ⟨v2, u2, hr2, hbe2⟩ := HBE1.out.one q x R1.out HX20.out hiL 33
      have HBE2 : Hid (Bp 48 w u2 G v2 (es.take i ++ [x])) := hbe2
      refine wpAnyH_ready (rs := [18]) (by kernel_rfl) (by simp) ?_
      refine consL rfl (fun KK hKK => ?_) AllReadyH.nil
      refine step_exec (by rfl) v2 (w' := u2) (by unfold execOp; simp only [resolve, invoke, builtin, Sem.run_bind, Sem.run_pure, Result.andThen_ok, List.map_toArray, List.map_cons, List.map_nil]; exact (congrArg (fun r => Result.andThen r _) hr2).trans rfl) ?_
      refine hKK.out _ _ (HQ.out _ HBE2.out.below) (fun hHeld => ?_)
      clear hKK KK hr2 hbe2
      try simp only [Act.put, List.setIfInBounds_toArray, List.set_cons_zero, List.set_cons_succ]
      refine takeL (i := 19) (v := ?_) rfl (by kernel_rfl) (by kernel_rfl) (by kernel_rfl) (fun _ _ _ h => h) (Or.inl ⟨by rfl, ?_⟩) hHeld ?_
      rotate_left
      · rintro w' ⟨r0, c20, c21⟩; go_simp; rfl
      try simp only [Act.put, List.setIfInBounds_toArray, List.set_cons_zero, List.set_cons_succ]
      refine wpAnyH_done (by kernel_rfl) ?_ _
      clear hHeld
      go_wp2
      go_roundg (n - (i + 1))
      case measure => omega
      case rel =>
        refine ⟨i + 1, v2, rfl, by omega, rfl, by go_num, hid ?_⟩
        rw [take_snocP2 es i (by rw [HN.out]; exact hlt), HX.out]
        exact HBE2.out
    · have hlti : ¬ (i : Int) < (n : Int) := by omega
      have HBZ : Hid (Bp 48 w wr G v es) := hid (by
        have := HBE.out
        rw [List.take_of_length_le (by rw [HN.out]; omega)] at this
        exact this)
      clear HBE
      obtain ⟨va, vc, hv⟩ : ∃ va vc, v = .slice va n vc := by
        have ho := HBZ.out.own
        rw [HN.out] at ho
        exact owns_shape ho
      subst hv
      have HPZ : Hid (Pp wr va vc es) := hid (HBZ.out.pp HWF.out HN.out).1
      go_wp2
      go_ret
      exact ⟨by rw [HG.out]; exact HBZ.out.below, va, vc, rfl, HPZ.out⟩
/-- One place, twice. -/
structure QP (b1 o1 b2 o2 : Nat) (m c : Int) (RI : List Value) (W : World) : Prop where
  r0 : W.rangeAt b1 o1 RI
  c20 : W.cell? ⟨b1, o1 + 20, none⟩ = some (.int .i64 m)
  c21 : W.cell? ⟨b1, o1 + 21, none⟩ = some (.int .u32 c)
  s0 : W.rangeAt b2 o2 RI
  d20 : W.cell? ⟨b2, o2 + 20, none⟩ = some (.int .i64 m)
  d21 : W.cell? ⟨b2, o2 + 21, none⟩ = some (.int .u32 c)
set_option maxRecDepth 20000 in
set_option maxHeartbeats 4000000 in
theorem samePlaces_any (a a' : Option Addr) (cap cap' : Nat) (es : List Pl) (hwf : ∀ x ∈ es, x.id.length = 20) (hn : es.length ≤ 1000) (w : World) (hP : Pp w a cap es) (hP' : Pp w a' cap' es) :
    Calls Tryd.prog 24 #[.slice a es.length cap, .slice a' es.length cap'] w fun e w' => e = .returned (.bool true) ∧ Below w.heap.size w w' := by
  obtain ⟨n, HN⟩ : ∃ n, Hid (es.length = n) := ⟨_, rfl⟩
  obtain ⟨G, HG⟩ : ∃ G, Hid (w.heap.size = G) := ⟨_, rfl⟩
  have hnn : n ≤ 1000 := by rw [← HN.out]; exact hn
  have HWF : Hid (∀ x ∈ es, x.id.length = 20) := hwf
  have HRX : Hid (∀ W, Below G w W → ∀ i, i < n → ∃ b1 off1 b2 off2, a = some ⟨b1, off1, none⟩ ∧ a' = some ⟨b2, off2, none⟩ ∧ W.rangeAt b1 (off1 + i * 22) (plV (es.getD i p0)) ∧ W.rangeAt b2 (off2 + i * 22) (plV (es.getD i p0))) := fun W hW i hi => by
    obtain ⟨b1, off1, e1, _, e3⟩ := (hP.below (by rw [HG.out]; exact hW)).at_ (by rw [HN.out]; omega)
    obtain ⟨b2, off2, f1, _, f3⟩ := (hP'.below (by rw [HG.out]; exact hW)).at_ (by rw [HN.out]; omega)
    exact ⟨b1, off1, b2, off2, e1, f1, e3 i (by rw [HN.out]; exact hi), f3 i (by rw [HN.out]; exact hi)⟩
  have hc1 : n ≤ cap := by rw [← HN.out]; exact hP.capl
  have hc2 : n ≤ cap' := by rw [← HN.out]; exact hP'.capl
  rw [HN.out]
  clear hP hP' hwf
  go_enter Tryd.func24, Tryd.ntmps24
  go_wp2_with fail
  go_loopg [5] n (fun g iv wr => ∃ i : Nat, i ≤ n ∧ g = n - i ∧ iv = .int .i64 i ∧ Hid (Below G w wr))
  case atStart => exact ⟨0, Nat.zero_le _, rfl, rfl, hid (Below.refl _ _)⟩
  case round =>
    obtain ⟨i, hi, hgi, rfl, HBr⟩ := hrel
    by_cases hlt : i < n
    · have hlti : (i : Int) < (n : Int) := by omega
      obtain ⟨b1, off1, b2, off2, hae, hdd, _⟩ := HRX.out wr HBr.out i hlt
      subst hae
      subst hdd
      obtain ⟨x, HX⟩ : ∃ x, Hid (es.getD i p0 = x) := ⟨_, rfl⟩
      have hxm : x ∈ es := by
        rw [← HX.out, List.getD_eq_getElem?_getD, List.getElem?_eq_getElem (by rw [HN.out]; exact hlt)]
        exact List.getElem_mem _
      have HX20 : Hid (x.id.length = 20) := HWF.out x hxm
      obtain ⟨m, HM⟩ : ∃ m, Hid (x.off = m) := ⟨_, rfl⟩
      obtain ⟨c, HC⟩ : ∃ m, Hid (x.crc = m) := ⟨_, rfl⟩
      obtain ⟨RI, HRI⟩ : ∃ R, Hid (row .u8 x.id = R) := ⟨_, rfl⟩
      have hi24 : (Tryd.prog.info? 24).map (·.size) = some RI.length := by rw [← HRI.out, row_len, HX20.out]; exact Tryd.size24'
      have hi23 : (Tryd.prog.info? 23).map (·.size) = some RI.length := by rw [← HRI.out, row_len, HX20.out]; kernel_rfl
      have hsm : ∀ w : World, (Op.equalIn 10000 24 (.agg RI.toArray) (.agg RI.toArray)).run Tryd.prog w = .ok true w := fun w => by rw [← HRI.out]; exact same25 x.id HX20.out w
      have HBd : Hid (Below G w wr.drew) := hid (below_drewH HBr.out 1)
      have HQd : Hid (QP b1 (off1 + i * 22) b2 (off2 + i * 22) m c RI wr.drew) := hid (by
        obtain ⟨b1', off1', b2', off2', e1, e2, e3, e4⟩ := HRX.out wr.drew HBd.out i hlt
        cases e1
        cases e2
        have q1 := qe_of e3 (by rw [HX.out]; exact HX20.out)
        have q2 := qe_of e4 (by rw [HX.out]; exact HX20.out)
        rw [HX.out, HM.out, HC.out, HRI.out] at q1 q2
        exact ⟨q1.r0, q1.c20, q1.c21, q2.r0, q2.c20, q2.c21⟩)
      clear hxm
      go_wp2_with fail
      refine wp_region_held_drew (S := QP b1 (off1 + i * 22) b2 (off2 + i * 22) m c RI) (by kernel_rfl) (by exact HQd.out) (fun hHeld => ?_)
      generalize wr.drew = u0 at hHeld HBd HQd ⊢
      clear HQd
      refine takeL (i := 0) (v := ?_) rfl (by kernel_rfl) (by kernel_rfl) (by kernel_rfl) (fun _ _ _ h => h) (Or.inl ⟨by rfl, ?_⟩) hHeld ?_
      rotate_left
      · rintro w' ⟨r0, c20, c21, s0, d20, d21⟩; go_simp; rfl
      try simp only [Act.put, List.setIfInBounds_toArray, List.set_cons_zero, List.set_cons_succ]
      refine takeL (i := 1) (v := ?_) rfl (by kernel_rfl) (by kernel_rfl) (by kernel_rfl) (fun _ _ _ h => h) (Or.inl ⟨by rfl, ?_⟩) hHeld ?_
      rotate_left
      · rintro w' ⟨r0, c20, c21, s0, d20, d21⟩; go_simp; rfl
      try simp only [Act.put, List.setIfInBounds_toArray, List.set_cons_zero, List.set_cons_succ]
      refine takeL (i := 2) (v := ?_) rfl (by kernel_rfl) (by kernel_rfl) (by kernel_rfl) (fun _ _ _ h => h) (Or.inl ⟨by rfl, ?_⟩) hHeld ?_
      rotate_left
      · rintro w' ⟨r0, c20, c21, s0, d20, d21⟩; go_simp; rfl
      try simp only [Act.put, List.setIfInBounds_toArray, List.set_cons_zero, List.set_cons_succ]
      refine takeL (i := 3) (v := ?_) rfl (by kernel_rfl) (by kernel_rfl) (by kernel_rfl) (fun _ _ _ h => h) (Or.inl ⟨by rfl, ?_⟩) hHeld ?_
      rotate_left
      · rintro w' ⟨r0, c20, c21, s0, d20, d21⟩; go_simp; rfl
      try simp only [Act.put, List.setIfInBounds_toArray, List.set_cons_zero, List.set_cons_succ]
      refine takeL (i := 4) (v := .agg RI.toArray) rfl (by kernel_rfl) (by kernel_rfl) (by kernel_rfl) (fun _ _ _ h => h) (yieldsIf_load_mid (by kernel_rfl) 24 _ rfl b1 (off1 + i * 22) (by rfl) RI _ (fun w' h => h.r0) Tryd.underlying24 rfl hi24) hHeld ?_
      try simp only [Act.put, List.setIfInBounds_toArray, List.set_cons_zero, List.set_cons_succ]
      refine takeL (i := 5) (v := ?_) rfl (by kernel_rfl) (by kernel_rfl) (by kernel_rfl) (fun _ _ _ h => h) (Or.inl ⟨by rfl, ?_⟩) hHeld ?_
      rotate_left
      · rintro w' ⟨r0, c20, c21, s0, d20, d21⟩; go_simp; rfl
      try simp only [Act.put, List.setIfInBounds_toArray, List.set_cons_zero, List.set_cons_succ]
      refine takeL (i := 6) (v := ?_) rfl (by kernel_rfl) (by kernel_rfl) (by kernel_rfl) (fun _ _ _ h => h) (Or.inl ⟨by rfl, ?_⟩) hHeld ?_
      rotate_left
      · rintro w' ⟨r0, c20, c21, s0, d20, d21⟩; go_simp; rfl
      try simp only [Act.put, List.setIfInBounds_toArray, List.set_cons_zero, List.set_cons_succ]
      refine takeL (i := 7) (v := ?_) rfl (by kernel_rfl) (by kernel_rfl) (by kernel_rfl) (fun _ _ _ h => h) (Or.inl ⟨by rfl, ?_⟩) hHeld ?_
      rotate_left
      · rintro w' ⟨r0, c20, c21, s0, d20, d21⟩; go_simp; rfl
      try simp only [Act.put, List.setIfInBounds_toArray, List.set_cons_zero, List.set_cons_succ]
      refine takeL (i := 8) (v := ?_) rfl (by kernel_rfl) (by kernel_rfl) (by kernel_rfl) (fun _ _ _ h => h) (Or.inl ⟨by rfl, ?_⟩) hHeld ?_
      rotate_left
      · rintro w' ⟨r0, c20, c21, s0, d20, d21⟩; go_simp; rfl
      try simp only [Act.put, List.setIfInBounds_toArray, List.set_cons_zero, List.set_cons_succ]
      refine takeL (i := 9) (v := .agg RI.toArray) rfl (by kernel_rfl) (by kernel_rfl) (by kernel_rfl) (fun _ _ _ h => h) (yieldsIf_load_mid (by kernel_rfl) 23 _ rfl b2 (off2 + i * 22) (by rfl) RI _ (fun w' h => h.s0) Tryd.underlying23 rfl hi23) hHeld ?_
      try simp only [Act.put, List.setIfInBounds_toArray, List.set_cons_zero, List.set_cons_succ]
      refine takeL (i := 10) (v := .bool false) rfl (by kernel_rfl) (by kernel_rfl) (by kernel_rfl) (fun _ _ _ h => h) (Or.inl ⟨by rfl, ?_⟩) hHeld ?_
      · rintro w' ⟨r0, c20, c21, s0, d20, d21⟩; go_simp; try rfl
      try simp only [Act.put, List.setIfInBounds_toArray, List.set_cons_zero, List.set_cons_succ]
      refine takeL (i := 11) (v := .bool false) rfl (by kernel_rfl) (by kernel_rfl) (by kernel_rfl) (fun _ _ _ h => h) (Or.inl ⟨by rfl, ?_⟩) hHeld ?_
      · rintro w' ⟨r0, c20, c21, s0, d20, d21⟩; go_simp; try rfl
      try simp only [Act.put, List.setIfInBounds_toArray, List.set_cons_zero, List.set_cons_succ]
      refine takeL (i := 12) (v := ?_) rfl (by kernel_rfl) (by kernel_rfl) (by kernel_rfl) (fun _ _ _ h => h) (Or.inl ⟨by kernel_rfl, ?_⟩) hHeld ?_
      rotate_left
      · rintro w' ⟨r0, c20, c21, s0, d20, d21⟩; go_simp; rfl
      try simp only [Act.put, List.setIfInBounds_toArray, List.set_cons_zero, List.set_cons_succ]
      refine takeL (i := 13) (v := ?_) rfl (by kernel_rfl) (by kernel_rfl) (by kernel_rfl) (fun _ _ _ h => h) (Or.inl ⟨by kernel_rfl, ?_⟩) hHeld ?_
      rotate_left
      · rintro w' ⟨r0, c20, c21, s0, d20, d21⟩; go_simp; rfl
      try simp only [Act.put, List.setIfInBounds_toArray, List.set_cons_zero, List.set_cons_succ]
      refine takeL (i := 14) (v := ?_) rfl (by kernel_rfl) (by kernel_rfl) (by kernel_rfl) (fun _ _ _ h => h) (Or.inl ⟨by kernel_rfl, ?_⟩) hHeld ?_
      rotate_left
      · rintro w' ⟨r0, c20, c21, s0, d20, d21⟩; go_simp; rfl
      try simp only [Act.put, List.setIfInBounds_toArray, List.set_cons_zero, List.set_cons_succ]
      refine takeL (i := 15) (v := ?_) rfl (by kernel_rfl) (by kernel_rfl) (by kernel_rfl) (fun _ _ _ h => h) (Or.inl ⟨by kernel_rfl, ?_⟩) hHeld ?_
      rotate_left
      · rintro w' ⟨r0, c20, c21, s0, d20, d21⟩; go_simp; rfl
      try simp only [Act.put, List.setIfInBounds_toArray, List.set_cons_zero, List.set_cons_succ]
      refine takeL (i := 16) (v := ?_) rfl (by kernel_rfl) (by kernel_rfl) (by kernel_rfl) (fun _ _ _ h => h) (Or.inl ⟨by kernel_rfl, ?_⟩) hHeld ?_
      rotate_left
      · rintro w' ⟨r0, c20, c21, s0, d20, d21⟩; go_simp; rfl
      try simp only [Act.put, List.setIfInBounds_toArray, List.set_cons_zero, List.set_cons_succ]
      refine takeL (i := 17) (v := ?_) rfl (by kernel_rfl) (by kernel_rfl) (by kernel_rfl) (fun _ _ _ h => h) (Or.inl ⟨by kernel_rfl, ?_⟩) hHeld ?_
      rotate_left
      · rintro w' ⟨r0, c20, c21, s0, d20, d21⟩; go_simp; rfl
      try simp only [Act.put, List.setIfInBounds_toArray, List.set_cons_zero, List.set_cons_succ]
      refine takeL (i := 18) (v := ?_) rfl (by kernel_rfl) (by kernel_rfl) (by kernel_rfl) (fun _ _ _ h => h) (Or.inl ⟨by kernel_rfl, ?_⟩) hHeld ?_
      rotate_left
      · rintro w' ⟨r0, c20, c21, s0, d20, d21⟩; go_simp; rfl
      try simp only [Act.put, List.setIfInBounds_toArray, List.set_cons_zero, List.set_cons_succ]
      refine takeL (i := 19) (v := ?_) rfl (by kernel_rfl) (by kernel_rfl) (by kernel_rfl) (fun _ _ _ h => h) (Or.inl ⟨by kernel_rfl, ?_⟩) hHeld ?_
      rotate_left
      · rintro w' ⟨r0, c20, c21, s0, d20, d21⟩; go_simp; rfl
      try simp only [Act.put, List.setIfInBounds_toArray, List.set_cons_zero, List.set_cons_succ]
      refine takeL (i := 20) (v := ?_) rfl (by kernel_rfl) (by kernel_rfl) (by kernel_rfl) (fun _ _ _ h => h) (Or.inl ⟨by kernel_rfl, ?_⟩) hHeld ?_
      rotate_left
      · rintro w' ⟨r0, c20, c21, s0, d20, d21⟩; go_simp; rfl
      try simp only [Act.put, List.setIfInBounds_toArray, List.set_cons_zero, List.set_cons_succ]
      refine takeL (i := 21) (v := ?_) rfl (by kernel_rfl) (by kernel_rfl) (by kernel_rfl) (fun _ _ _ h => h) (Or.inl ⟨by kernel_rfl, ?_⟩) hHeld ?_
      rotate_left
      · rintro w' ⟨r0, c20, c21, s0, d20, d21⟩; go_simp; rfl
      try simp only [Act.put, List.setIfInBounds_toArray, List.set_cons_zero, List.set_cons_succ]
      refine takeL (i := 22) (v := .bool false) rfl (by kernel_rfl) (by kernel_rfl) (by kernel_rfl) (fun _ _ _ h => h) (Or.inl ⟨by kernel_rfl, ?_⟩) hHeld ?_
      · rintro w' ⟨r0, c20, c21, s0, d20, d21⟩; go_simp; try rfl
      try simp only [Act.put, List.setIfInBounds_toArray, List.set_cons_zero, List.set_cons_succ]
      refine takeL (i := 23) (v := .bool false) rfl (by kernel_rfl) (by kernel_rfl) (by kernel_rfl) (fun _ _ _ h => h) (Or.inl ⟨by rfl, ?_⟩) hHeld ?_
      · rintro w' ⟨r0, c20, c21, s0, d20, d21⟩; go_simp; try rfl
      try simp only [Act.put, List.setIfInBounds_toArray, List.set_cons_zero, List.set_cons_succ]
      refine takeL (i := 24) (v := .bool false) rfl (by kernel_rfl) (by kernel_rfl) (by kernel_rfl) (fun _ _ _ h => h) (Or.inl ⟨by rfl, ?_⟩) hHeld ?_
      · rintro w' ⟨r0, c20, c21, s0, d20, d21⟩; go_simp; try rfl
      try simp only [Act.put, List.setIfInBounds_toArray, List.set_cons_zero, List.set_cons_succ]
      refine takeL (i := 25) (v := ?_) rfl (by kernel_rfl) (by kernel_rfl) (by kernel_rfl) (fun _ _ _ h => h) (Or.inl ⟨by kernel_rfl, ?_⟩) hHeld ?_
      rotate_left
      · rintro w' ⟨r0, c20, c21, s0, d20, d21⟩; go_simp; rfl
      try simp only [Act.put, List.setIfInBounds_toArray, List.set_cons_zero, List.set_cons_succ]
      refine takeL (i := 26) (v := ?_) rfl (by kernel_rfl) (by kernel_rfl) (by kernel_rfl) (fun _ _ _ h => h) (Or.inl ⟨by kernel_rfl, ?_⟩) hHeld ?_
      rotate_left
      · rintro w' ⟨r0, c20, c21, s0, d20, d21⟩; go_simp; rfl
      try simp only [Act.put, List.setIfInBounds_toArray, List.set_cons_zero, List.set_cons_succ]
      refine takeL (i := 27) (v := ?_) rfl (by kernel_rfl) (by kernel_rfl) (by kernel_rfl) (fun _ _ _ h => h) (Or.inl ⟨by kernel_rfl, ?_⟩) hHeld ?_
      rotate_left
      · rintro w' ⟨r0, c20, c21, s0, d20, d21⟩; go_simp; rfl
      try simp only [Act.put, List.setIfInBounds_toArray, List.set_cons_zero, List.set_cons_succ]
      refine takeL (i := 28) (v := ?_) rfl (by kernel_rfl) (by kernel_rfl) (by kernel_rfl) (fun _ _ _ h => h) (Or.inl ⟨by kernel_rfl, ?_⟩) hHeld ?_
      rotate_left
      · rintro w' ⟨r0, c20, c21, s0, d20, d21⟩; go_simp; rfl
      try simp only [Act.put, List.setIfInBounds_toArray, List.set_cons_zero, List.set_cons_succ]
      refine takeL (i := 29) (v := ?_) rfl (by kernel_rfl) (by kernel_rfl) (by kernel_rfl) (fun _ _ _ h => h) (Or.inl ⟨by kernel_rfl, ?_⟩) hHeld ?_
      rotate_left
      · rintro w' ⟨r0, c20, c21, s0, d20, d21⟩; go_simp; rfl
      try simp only [Act.put, List.setIfInBounds_toArray, List.set_cons_zero, List.set_cons_succ]
      refine takeL (i := 30) (v := ?_) rfl (by kernel_rfl) (by kernel_rfl) (by kernel_rfl) (fun _ _ _ h => h) (Or.inl ⟨by kernel_rfl, ?_⟩) hHeld ?_
      rotate_left
      · rintro w' ⟨r0, c20, c21, s0, d20, d21⟩; go_simp; rfl
      try simp only [Act.put, List.setIfInBounds_toArray, List.set_cons_zero, List.set_cons_succ]
      refine takeL (i := 31) (v := ?_) rfl (by kernel_rfl) (by kernel_rfl) (by kernel_rfl) (fun _ _ _ h => h) (Or.inl ⟨by kernel_rfl, ?_⟩) hHeld ?_
      rotate_left
      · rintro w' ⟨r0, c20, c21, s0, d20, d21⟩; go_simp; rfl
      try simp only [Act.put, List.setIfInBounds_toArray, List.set_cons_zero, List.set_cons_succ]
      refine takeL (i := 32) (v := ?_) rfl (by kernel_rfl) (by kernel_rfl) (by kernel_rfl) (fun _ _ _ h => h) (Or.inl ⟨by kernel_rfl, ?_⟩) hHeld ?_
      rotate_left
      · rintro w' ⟨r0, c20, c21, s0, d20, d21⟩; go_simp; rfl
      try simp only [Act.put, List.setIfInBounds_toArray, List.set_cons_zero, List.set_cons_succ]
      refine takeL (i := 33) (v := ?_) rfl (by kernel_rfl) (by kernel_rfl) (by kernel_rfl) (fun _ _ _ h => h) (Or.inl ⟨by kernel_rfl, ?_⟩) hHeld ?_
      rotate_left
      · rintro w' ⟨r0, c20, c21, s0, d20, d21⟩; go_simp; rfl
      try simp only [Act.put, List.setIfInBounds_toArray, List.set_cons_zero, List.set_cons_succ]
      refine takeL (i := 34) (v := ?_) rfl (by kernel_rfl) (by kernel_rfl) (by kernel_rfl) (fun _ _ _ h => h) (Or.inl ⟨by kernel_rfl, ?_⟩) hHeld ?_
      rotate_left
      · rintro w' ⟨r0, c20, c21, s0, d20, d21⟩; go_simp; rfl
      try simp only [Act.put, List.setIfInBounds_toArray, List.set_cons_zero, List.set_cons_succ]
      refine takeL (i := 35) (v := .bool false) rfl (by kernel_rfl) (by kernel_rfl) (by kernel_rfl) (fun _ _ _ h => h) (Or.inl ⟨by kernel_rfl, ?_⟩) hHeld ?_
      · rintro w' ⟨r0, c20, c21, s0, d20, d21⟩; go_simp; try rfl
      try simp only [Act.put, List.setIfInBounds_toArray, List.set_cons_zero, List.set_cons_succ]
      refine takeL (i := 36) (v := .bool false) rfl (by kernel_rfl) (by kernel_rfl) (by kernel_rfl) (fun _ _ _ h => h) (Or.inl ⟨by rfl, ?_⟩) hHeld ?_
      · rintro w' ⟨r0, c20, c21, s0, d20, d21⟩; go_simp; try rfl
      try simp only [Act.put, List.setIfInBounds_toArray, List.set_cons_zero, List.set_cons_succ]
      refine wpAnyH_done (by kernel_rfl) ?_ _
      clear hHeld hsm
      go_wp2
      go_roundg (n - (i + 1))
      case measure => omega
      case rel => exact ⟨i + 1, by omega, rfl, by go_num, HBd⟩
    · have hlti : ¬ (i : Int) < (n : Int) := by omega
      go_wp2
      go_ret
      exact ⟨rfl, by rw [HG.out]; exact HBr.out⟩
end Go.Proofs.YtdfihfmmfmoabaaDoor
