import Derived.Test.YtbpdielmdhhdfaaGreatDoorMu33
import Derived.Test.YtbpdielmdhhdfaaGreatDoorMu34
import Derived.Test.YtbpdielmdhhdfaaGreatDoorMu36
/- The law's 'entries' and 'readsTree'. -/
namespace Go.Proofs.YtbpdielmdhhdfaaGreatDoor
open Go.RowKit
variable [Inhabited Er] [Inhabited En]
set_option linter.unusedVariables false
set_option linter.unusedSectionVars false
set_option linter.unusedSimpArgs false
/-- What a drawn region reads of an entry. -/
structure QE (b o : Nat) (m : Int) (S : ByteArray) (RI : List Value) (W : World) : Prop where
  c0 : W.cell? ⟨b, o, none⟩ = some (.int .i64 m)
  c1 : W.cell? ⟨b, o + 1, none⟩ = some (.string S)
  r2 : W.rangeAt b (o + 2) RI
theorem qe_of {W : World} {b o : Nat} {x : Er} (h : W.rangeAt b o (erV x)) : QE b o x.mode ⟨x.name.toArray⟩ (row .u8 x.id) W :=
  ⟨by simpa using h 0 _ rfl, by simpa using h 1 _ rfl, fun j v hv => by
    have := h (2 + j) v (by rw [Nat.add_comm 2 j]; exact hv)
    rw [← this]
    congr 2
    omega⟩
set_option maxRecDepth 20000 in
theorem built103 (x : Er) (h : x.id.length = 20) : Tryz.prog.built 103 [(0, .int .i64 x.mode), (1, .string ⟨x.name.toArray⟩), (2, .agg (row .u8 x.id).toArray)] = some (erV x).toArray := by
  obtain ⟨m, nm, id⟩ := x
  obtain ⟨a0, a1, a2, a3, a4, a5, a6, a7, a8, a9, a10, a11, a12, a13, a14, a15, a16, a17, a18, a19, rfl⟩ := list20 id h
  kernel_rfl
theorem exec_build {P : Program} {o : Oper} {a : Act} {w : World} (t : TypeId) (parts : Array (Nat × Operand)) (ho : o.op = .build t parts) (cells : Array Value) (h : P.built t (parts.map fun (i, x) => (i, a.eval x)).toList = some cells) : (execOp a.eval o).run P w = .ok (.value (.agg cells)) w := by
  have hr := run_build (P := P) w t (parts.map fun (i, x) => (i, a.eval x)) cells h
  unfold execOp
  simp only [ho, Sem.run_bind, hr, Result.andThen_ok, Sem.run_pure]
theorem exec_buildS {P : Program} {o : Oper} {a : Act} {w w' : World} (t len : Nat) (x : Operand) (ho : o.op = .buildSlice t len #[(0, x)]) (u v : Value) (hx : a.eval x = u) (hr : (Instr.buildSlice t len #[(0, u)]).run P w = .ok v w') : (execOp a.eval o).run P w = .ok (.value v) w' := by
  unfold execOp
  simp [ho, hx, hr, Result.andThen]
theorem Be.one {w0 w : World} {B : Nat} {v : Value} {es : List Er} (h : Be w0 w B v es) (b : Nat) (y : Er) (hb : w.rangeAt b 0 (erV y)) (hy : y.id.length = 20) (hl : es.length ≤ 3000) (ty : TypeId) :
    ∃ v' w', (Builtin.append_ #[52, 52] ty #[v, .slice (some ⟨b, 0, none⟩) 1 1]).run Tryz.prog w = .ok v' w' ∧ Be w0 w' B v' (es ++ [y]) := by
  obtain ⟨i, hi, hz0, hz1, hz2⟩ := info_parts Tryz.info103
  obtain ⟨v', w', hr, h1, h2, _⟩ := run_append_own_at (P := Tryz.prog) w B 52 ty 103 i (.agg (erV ⟨0, [], z20⟩).toArray) 22 48 Tryz.underlying52 hi hz0 hz1 hz2 rfl (by decide) v _ _ h.own ⟨b, 0, none⟩ 1 1 (erV y) (by rw [erV_len y hy]) (fun j u hj => by rw [addr_add]; exact hb j u hj) (erV_one y) (by unfold maxLen; omega) (by omega) h.le
  refine ⟨v', w', hr, ⟨h.below.grown h2 h.le (fun k hk => (own_lt h.own k hk).1), ?_, Nat.le_trans h.le h2.size⟩⟩
  rw [List.length_append, fE_snoc]
  exact h1
set_option maxRecDepth 20000 in
set_option maxHeartbeats 4000000 in
theorem entries_any (a : Option Addr) (cap : Nat) (es : List Er) (hwf : ∀ x ∈ es, x.id.length = 20) (hn : es.length ≤ 1000) (w : World) (hP : Pe w a cap es) :
    Calls Tryz.prog 19 #[.slice a es.length cap] w fun e w' => Below w.heap.size w w' ∧ ∃ a' cap', e = .returned (.slice a' es.length cap') ∧ Pe w' a' cap' es := by
  obtain ⟨n, HN⟩ : ∃ n, Hid (es.length = n) := ⟨_, rfl⟩
  obtain ⟨G, HG⟩ : ∃ G, Hid (w.heap.size = G) := ⟨_, rfl⟩
  have hnn : n ≤ 1000 := by rw [← HN.out]; exact hn
  have HPA : Hid (∀ W, Below G w W → Pe W a cap es) := fun W hW => hP.below (by rw [HG.out]; exact hW)
  have HPL : Hid (0 < n → ∃ b off, a = some ⟨b, off, none⟩ ∧ b < G) := fun h0 => by
    obtain ⟨b, off, e1, e2, _⟩ := hP.at_ (by rw [HN.out]; exact h0)
    exact ⟨b, off, e1, by rw [← HG.out]; exact e2⟩
  have HWF : Hid (∀ x ∈ es, x.id.length = 20) := hwf
  have HE0 : Hid (Be w w G (.slice none 0 0) (es.take 0)) := hid (be_nil w G (by rw [HG.out]; exact Nat.le_refl _))
  rw [HN.out]
  clear hP hwf
  go_enter Tryz.func19, Tryz.ntmps19
  go_wp2_with fail
  go_loopg [3, 4] n (fun g u iv wr => ∃ (i : Nat) (v : Value), v = u ∧ i ≤ n ∧ g = n - i ∧ iv = .int .i64 i ∧ Hid (Be w wr G v (es.take i)))
  case atStart => exact ⟨0, _, rfl, Nat.zero_le _, rfl, rfl, HE0⟩
  case round =>
    obtain ⟨i, v, hv, hi, hk, rfl, HBE⟩ := hrel
    subst hv
    by_cases hlt : i < n
    · have hlti : (i : Int) < (n : Int) := by omega
      obtain ⟨b, off, hae, hbG⟩ := HPL.out (by omega)
      subst hae
      obtain ⟨x, HX⟩ : ∃ x, Hid (es.getD i default = x) := ⟨_, rfl⟩
      have hxm : x ∈ es := by
        rw [← HX.out, List.getD_eq_getElem?_getD, List.getElem?_eq_getElem (by rw [HN.out]; exact hlt)]
        exact List.getElem_mem _
      have HX20 : Hid (x.id.length = 20) := HWF.out x hxm
      obtain ⟨S, HS⟩ : ∃ S : ByteArray, Hid ((⟨x.name.toArray⟩ : ByteArray) = S) := ⟨_, rfl⟩
      obtain ⟨m, HM⟩ : ∃ m, Hid (x.mode = m) := ⟨_, rfl⟩
      obtain ⟨RI, HRI⟩ : ∃ R, Hid (row .u8 x.id = R) := ⟨_, rfl⟩
      obtain ⟨R, HR⟩ : ∃ R : List Value, Hid (erV x = R) := ⟨_, rfl⟩
      have HQ : Hid (∀ W, Below G w W → QE b (off + i * 22) m S RI W) := fun W hW => by
        obtain ⟨b', off', e1, e2, e3⟩ := (HPA.out W hW).at_ (by rw [HN.out]; omega)
        cases e1
        have := qe_of (e3 i (by rw [HN.out]; exact hlt))
        rw [HX.out, HM.out, HS.out, HRI.out] at this
        exact this
      have hi32 : (Tryz.prog.info? 32).map (·.size) = some RI.length := by rw [← HRI.out, row_len, HX20.out]; exact Tryz.size32
      have HBU : Hid (Tryz.prog.built 103 [(0, .int .i64 m), (1, .string S), (2, .agg RI.toArray)] = some R.toArray) := hid (by
        rw [← HM.out, ← HS.out, ← HRI.out, ← HR.out]; exact built103 x HX20.out)
      have HBd : Hid (Be w wr.drew G v (es.take i)) := hid (HBE.out.carry (below_drewH (Below.refl _ _) 1))
      have hiL : (es.take i).length ≤ 3000 := by rw [List.length_take, HN.out]; omega
      clear hxm
      go_wp2_with fail
      refine wp_region_held_drew (S := QE b (off + i * 22) m S RI) (by kernel_rfl) (by exact HQ.out _ HBd.out.below) (fun hHeld => ?_)
      generalize wr.drew = u0 at hHeld HBd ⊢
      refine takeL (i := 0) (v := ?_) rfl (by kernel_rfl) (by kernel_rfl) (by kernel_rfl) (fun _ _ _ h => h) (Or.inl ⟨by rfl, ?_⟩) hHeld ?_
      rotate_left
      · rintro w' ⟨c0, c1, r2⟩; go_simp; rfl
      try simp only [Act.put, List.setIfInBounds_toArray, List.set_cons_zero, List.set_cons_succ]
      refine takeL (i := 1) (v := ?_) rfl (by kernel_rfl) (by kernel_rfl) (by kernel_rfl) (fun _ _ _ h => h) (Or.inl ⟨by rfl, ?_⟩) hHeld ?_
      rotate_left
      · rintro w' ⟨c0, c1, r2⟩; go_simp; rfl
      try simp only [Act.put, List.setIfInBounds_toArray, List.set_cons_zero, List.set_cons_succ]
      refine takeL (i := 2) (v := ?_) rfl (by kernel_rfl) (by kernel_rfl) (by kernel_rfl) (fun _ _ _ h => h) (Or.inl ⟨by rfl, ?_⟩) hHeld ?_
      rotate_left
      · rintro w' ⟨c0, c1, r2⟩; go_simp; rfl
      try simp only [Act.put, List.setIfInBounds_toArray, List.set_cons_zero, List.set_cons_succ]
      refine takeL (i := 3) (v := ?_) rfl (by kernel_rfl) (by kernel_rfl) (by kernel_rfl) (fun _ _ _ h => h) (Or.inl ⟨by rfl, ?_⟩) hHeld ?_
      rotate_left
      · rintro w' ⟨c0, c1, r2⟩; go_simp; rfl
      try simp only [Act.put, List.setIfInBounds_toArray, List.set_cons_zero, List.set_cons_succ]
      refine takeL (i := 4) (v := ?_) rfl (by kernel_rfl) (by kernel_rfl) (by kernel_rfl) (fun _ _ _ h => h) (Or.inl ⟨by rfl, ?_⟩) hHeld ?_
      rotate_left
      · rintro w' ⟨c0, c1, r2⟩; go_simp; rfl
      try simp only [Act.put, List.setIfInBounds_toArray, List.set_cons_zero, List.set_cons_succ]
      refine takeL (i := 5) (v := ?_) rfl (by kernel_rfl) (by kernel_rfl) (by kernel_rfl) (fun _ _ _ h => h) (Or.inl ⟨by rfl, ?_⟩) hHeld ?_
      rotate_left
      · rintro w' ⟨c0, c1, r2⟩; go_simp; rfl
      try simp only [Act.put, List.setIfInBounds_toArray, List.set_cons_zero, List.set_cons_succ]
      refine takeL (i := 6) (v := ?_) rfl (by kernel_rfl) (by kernel_rfl) (by kernel_rfl) (fun _ _ _ h => h) (Or.inl ⟨by rfl, ?_⟩) hHeld ?_
      rotate_left
      · rintro w' ⟨c0, c1, r2⟩; go_simp; rfl
      try simp only [Act.put, List.setIfInBounds_toArray, List.set_cons_zero, List.set_cons_succ]
      refine takeL (i := 7) (v := ?_) rfl (by kernel_rfl) (by kernel_rfl) (by kernel_rfl) (fun _ _ _ h => h) (Or.inl ⟨by rfl, ?_⟩) hHeld ?_
      rotate_left
      · rintro w' ⟨c0, c1, r2⟩; go_simp; rfl
      try simp only [Act.put, List.setIfInBounds_toArray, List.set_cons_zero, List.set_cons_succ]
      refine takeL (i := 8) (v := ?_) rfl (by kernel_rfl) (by kernel_rfl) (by kernel_rfl) (fun _ _ _ h => h) (Or.inl ⟨by rfl, ?_⟩) hHeld ?_
      rotate_left
      · rintro w' ⟨c0, c1, r2⟩; go_simp; rfl
      try simp only [Act.put, List.setIfInBounds_toArray, List.set_cons_zero, List.set_cons_succ]
      refine takeL (i := 9) (v := ?_) rfl (by kernel_rfl) (by kernel_rfl) (by kernel_rfl) (fun _ _ _ h => h) (Or.inl ⟨by rfl, ?_⟩) hHeld ?_
      rotate_left
      · rintro w' ⟨c0, c1, r2⟩; go_simp; rfl
      try simp only [Act.put, List.setIfInBounds_toArray, List.set_cons_zero, List.set_cons_succ]
      refine takeL (i := 10) (v := ?_) rfl (by kernel_rfl) (by kernel_rfl) (by kernel_rfl) (fun _ _ _ h => h) (Or.inl ⟨by rfl, ?_⟩) hHeld ?_
      rotate_left
      · rintro w' ⟨c0, c1, r2⟩; go_simp; rfl
      try simp only [Act.put, List.setIfInBounds_toArray, List.set_cons_zero, List.set_cons_succ]
      refine takeL (i := 11) (v := ?_) rfl (by kernel_rfl) (by kernel_rfl) (by kernel_rfl) (fun _ _ _ h => h) (Or.inl ⟨by rfl, ?_⟩) hHeld ?_
      rotate_left
      · rintro w' ⟨c0, c1, r2⟩; go_simp; rfl
      try simp only [Act.put, List.setIfInBounds_toArray, List.set_cons_zero, List.set_cons_succ]
      refine takeL (i := 12) (v := ?_) rfl (by kernel_rfl) (by kernel_rfl) (by kernel_rfl) (fun _ _ _ h => h) (Or.inl ⟨by rfl, ?_⟩) hHeld ?_
      rotate_left
      · rintro w' ⟨c0, c1, r2⟩; go_simp; rfl
      try simp only [Act.put, List.setIfInBounds_toArray, List.set_cons_zero, List.set_cons_succ]
      refine takeL (i := 13) (v := ?_) rfl (by kernel_rfl) (by kernel_rfl) (by kernel_rfl) (fun _ _ _ h => h) (Or.inl ⟨by rfl, ?_⟩) hHeld ?_
      rotate_left
      · rintro w' ⟨c0, c1, r2⟩; go_simp; rfl
      try simp only [Act.put, List.setIfInBounds_toArray, List.set_cons_zero, List.set_cons_succ]
      refine takeL (i := 14) (v := ?_) rfl (by kernel_rfl) (by kernel_rfl) (by kernel_rfl) (fun _ _ _ h => h) (Or.inl ⟨by rfl, ?_⟩) hHeld ?_
      rotate_left
      · rintro w' ⟨c0, c1, r2⟩; go_simp; rfl
      try simp only [Act.put, List.setIfInBounds_toArray, List.set_cons_zero, List.set_cons_succ]
      refine takeL (i := 15) (v := .agg RI.toArray) rfl (by kernel_rfl) (by kernel_rfl) (by kernel_rfl) (fun _ _ _ h => h) (yieldsIf_load_mid (by rfl) 32 _ rfl b (off + i * 22 + 2) (by rfl) RI _ (fun w' h => h.r2) Tryz.underlying32 rfl hi32) hHeld ?_
      try simp only [Act.put, List.setIfInBounds_toArray, List.set_cons_zero, List.set_cons_succ]
      refine takeL (i := 16) (v := .agg R.toArray) rfl (by kernel_rfl) (by kernel_rfl) (by kernel_rfl) (fun _ _ _ h => h) (Or.inl ⟨by rfl, fun w' _ => ?_⟩) hHeld ?_
      · exact exec_build 103 _ rfl R.toArray (by simp only [List.map_toArray, List.map_cons, List.map_nil]; exact HBU.out)
      try simp only [Act.put, List.setIfInBounds_toArray, List.set_cons_zero, List.set_cons_succ]
      obtain ⟨u1, HU1⟩ : ∃ u1, Hid (u0.alloc (.cells R.toArray 103) = u1) := ⟨_, rfl⟩
      obtain ⟨q, HQB⟩ : ∃ q, Hid (u0.heap.size = q) := ⟨_, rfl⟩
      have HBE1 : Hid (Be w u1 G v (es.take i)) := hid (by rw [← HU1.out]; exact HBd.out.alloc _)
      have R1 : Hid (u1.rangeAt q 0 (erV x)) := hid (by rw [HR.out, ← HU1.out, ← HQB.out]; exact range_row (heap_alloc_new u0 _))
      refine wpAnyH_ready (rs := [17]) (by kernel_rfl) (by simp) ?_
      refine consL rfl (fun KK hKK => ?_) AllReadyH.nil
      refine step_exec (by rfl) (.slice (some ⟨q, 0, none⟩) 1 1) (w' := u1) (by
        have hb := run_build103 x HX20.out u0
        rw [HR.out, HU1.out, HQB.out] at hb
        exact exec_buildS 52 1 _ rfl (.agg R.toArray) _ rfl hb) ?_
      refine hKK.out _ _ (HQ.out _ HBE1.out.below) (fun hHeld => ?_)
      clear hKK KK
      try simp only [Act.put, List.setIfInBounds_toArray, List.set_cons_zero, List.set_cons_succ]
      obtain ⟨v2, u2, hr2, hbe2⟩ := HBE1.out.one q x R1.out HX20.out hiL 52
      have HBE2 : Hid (Be w u2 G v2 (es.take i ++ [x])) := hbe2
      refine wpAnyH_ready (rs := [18]) (by kernel_rfl) (by simp) ?_
      refine consL rfl (fun KK hKK => ?_) AllReadyH.nil
      refine step_exec (by rfl) v2 (w' := u2) (by unfold execOp; simp only [resolve, invoke, builtin, Sem.run_bind, Sem.run_pure, Result.andThen_ok, List.map_toArray, List.map_cons, List.map_nil]; exact (congrArg (fun r => Result.andThen r _) hr2).trans rfl) ?_
      refine hKK.out _ _ (HQ.out _ HBE2.out.below) (fun hHeld => ?_)
      clear hKK KK hr2 hbe2
      try simp only [Act.put, List.setIfInBounds_toArray, List.set_cons_zero, List.set_cons_succ]
      refine takeL (i := 19) (v := ?_) rfl (by kernel_rfl) (by kernel_rfl) (by kernel_rfl) (fun _ _ _ h => h) (Or.inl ⟨by rfl, ?_⟩) hHeld ?_
      rotate_left
      · rintro w' ⟨c0, c1, r2⟩; go_simp; rfl
      try simp only [Act.put, List.setIfInBounds_toArray, List.set_cons_zero, List.set_cons_succ]
      refine wpAnyH_done (by kernel_rfl) ?_ _
      clear hHeld
      go_wp2
      go_roundg (n - (i + 1))
      case measure => omega
      case rel =>
        refine ⟨i + 1, v2, rfl, by omega, rfl, by go_num, hid ?_⟩
        rw [take_snocE es i (by rw [HN.out]; exact hlt), HX.out]
        exact HBE2.out
    · have hlti : ¬ (i : Int) < (n : Int) := by omega
      have HBZ : Hid (Be w wr G v es) := hid (by have := HBE.out; rw [List.take_of_length_le (by rw [HN.out]; omega)] at this; exact this)
      obtain ⟨va, vc, hv⟩ : ∃ va vc, v = .slice va n vc := by
        have ho := HBZ.out.own
        rw [HN.out] at ho
        exact owns_shape ho
      subst hv
      have HPZ : Hid (Pe wr va vc es) := hid (HBZ.out.pe HWF.out HN.out).1
      go_wp2
      go_ret
      exact ⟨by rw [HG.out]; exact HBZ.out.below, va, vc, rfl, HPZ.out⟩
end Go.Proofs.YtbpdielmdhhdfaaGreatDoor
/- The law's 'readsTree'. -/
namespace Go.Proofs.YtbpdielmdhhdfaaGreatDoor
open Go.RowKit
variable [Inhabited Er] [Inhabited En]
set_option linter.unusedVariables false
set_option linter.unusedSectionVars false
set_option linter.unusedSimpArgs false
/-- What the last test reads: one entry, twice. -/
structure QP (b1 o1 b2 o2 : Nat) (m : Int) (S : ByteArray) (RI : List Value) (W : World) : Prop where
  c0 : W.cell? ⟨b1, o1, none⟩ = some (.int .i64 m)
  c1 : W.cell? ⟨b1, o1 + 1, none⟩ = some (.string S)
  r2 : W.rangeAt b1 (o1 + 2) RI
  d0 : W.cell? ⟨b2, o2, none⟩ = some (.int .i64 m)
  d1 : W.cell? ⟨b2, o2 + 1, none⟩ = some (.string S)
  s2 : W.rangeAt b2 (o2 + 2) RI
theorem Pe.grown {w w' : World} {a : Option Addr} {cap r : Nat} {es : List Er} (h : Pe w a cap es) (hg : w.grownBy w' (some r)) (hne : ∀ p : Addr, a = some p → p.block ≠ r) : Pe w' a cap es :=
  ⟨h.capl, fun h0 => by
    obtain ⟨b, off, e1, e2, e3⟩ := h.at_ h0
    have hb : w'.heap[b]? = w.heap[b]? := hg.block b e2 (by simp; exact hne _ e1)
    exact ⟨b, off, e1, Nat.lt_of_lt_of_le e2 hg.size, fun i hi j v hv => (World.cell?_of_block (a := ⟨b, off + i * 22 + j, none⟩) hb).trans (e3 i hi j v hv)⟩, h.nil⟩
set_option maxRecDepth 20000 in
set_option maxHeartbeats 8000000 in
theorem readsTree_any (a : Option Addr) (cap : Nat) (zs : List Int) (w : World) (hl : zs.length ≤ 20000) (hz : IsB zs) (hS : Sl w a cap zs) (hw : Lw w) (he : Ers w) (hd : Db w) :
    Calls Tryz.prog 21 #[.slice a zs.length cap] w fun e w' => e = .returned (.bool true) ∧ Below w.heap.size w w' := by
  obtain ⟨n, HN⟩ : ∃ n, Hid (zs.length = n) := ⟨_, rfl⟩
  obtain ⟨G, HG⟩ : ∃ G, Hid (w.heap.size = G) := ⟨_, rfl⟩
  obtain ⟨l, HL⟩ : ∃ l, Hid (Lib.bytesOf zs = l) := ⟨_, rfl⟩
  have HLW : Hid (∀ W, Below G w W → Lw W) := fun W hW => hw.below (by rw [HG.out]; exact hW)
  have HER : Hid (∀ W, Below G w W → Ers W) := fun W hW => he.below (by rw [HG.out]; exact hW)
  have HDB : Hid (∀ W, Below G w W → Db W) := fun W hW => hd.below (by rw [HG.out]; exact hW)
  have HSS : Hid (∀ W, Below G w W → Sl W a cap zs) := fun W hW => hS.below (by rw [HG.out]; exact hW)
  have HSB : Hid (0 < zs.length → ∃ b off, a = some ⟨b, off, none⟩ ∧ b < G) := fun h0 => by
    obtain ⟨b, off, e1, e2, _⟩ := hS.at_ h0
    exact ⟨b, off, e1, by rw [← HG.out]; exact e2⟩
  have HR8 : Hid (Calls Tryz.prog 8 #[.slice a n cap] w fun e w' => e = .returned (.slice (some ⟨G, 0, none⟩) n (n + 2)) ∧ Below G w w' ∧ Room w' G zs) := by
    have := roomy_any a cap zs w (by omega) hS.at_
    rw [HN.out, HG.out] at this
    exact this
  have HRT : Hid (∀ W, Below G w W → Room W G zs → Calls Tryz.prog 51 #[.slice (some ⟨G, 0, none⟩) n (n + 2)] W fun e w' => Below W.heap.size W w' ∧ PostRB l W e w') := fun W hW hr => by
    have := readTree_any (some ⟨G, 0, none⟩) (zs.length + 2) zs hl W (HDB.out W hW) (HER.out W hW) (HLW.out W hW).mx hr.sl
    rw [HN.out, HL.out] at this
    exact this
  have HRR : Hid (∀ W, Below G w W → Calls Tryz.prog 52 #[.slice a n cap] W fun e w' => Below W.heap.size W w' ∧ PostRD l e w') := fun W hW => by
    have := readTreeR_any a cap zs hl hz W (HSS.out W hW)
    rw [HN.out, HL.out] at this
    exact this
  have HST : Hid (∀ W, Below G w W → Room W G zs → Calls Tryz.prog 12 #[.slice (some ⟨G, 0, none⟩) n (n + 2), .slice a n cap] W fun e w' => e = .returned (.bool true) ∧ W.grownBy w' (some G)) := fun W hW hr => by
    have := still_keep a cap G zs W (by omega) hz hr (fun h0 => by
      obtain ⟨b, off, e1, e2, e3⟩ := (HSS.out W hW).at_ h0
      obtain ⟨b', off', e1', e2'⟩ := HSB.out h0
      rw [e1] at e1'
      cases e1'
      exact ⟨b, off, e1, e2', e3⟩)
    rw [HN.out] at this
    exact this
  have HTE : Hid (∀ W, Below G w W → Calls Tryz.prog 11 #[.iface 35 (.int .i64 21)] W fun e w' => e = .returned (.int .i64 21) ∧ Below W.heap.size W w') := fun W hW => tell_errno 21 W (HLW.out W hW).hand
  rw [HN.out, HG.out]
  clear hS hw he hd
  go_enter Tryz.func21, Tryz.ntmps21
  go_wp2_with fail
  refine HR8.out.mono ?_
  rintro ev w1 ⟨rfl, hb1, hr1⟩
  have HB1 : Hid (Below G w w1) := hb1
  have HR1 : Hid (Room w1 G zs) := hr1
  have hG1 : G < w1.heap.size := hr1.lt
  clear hb1 hr1
  go_wp2_with fail
  refine (HRT.out w1 HB1.out HR1.out).mono ?_
  rintro ev w2 ⟨hb2, a2, c2, es, hfr, hpe, hwf, hle, hun, ⟨⟨hok, heq⟩, rfl⟩ | ⟨hno, rfl⟩⟩
  · have HWF : Hid (WfE es) := hwf
    have HUN : Hid (∀ u, okTr u → treeB u = l → es = u) := hun
    have HOK : Hid (okL es) := hok
    have HEQ : Hid (treeB (srtE es) = l) := heq
    have HFR : Hid (∀ p : Addr, a2 = some p → p.block ≠ G) := fun p hp => by have := hfr p hp; omega
    have HPE2 : Hid (Pe w2 a2 c2 es) := hpe
    obtain ⟨k, HK⟩ : ∃ k, Hid (es.length = k) := ⟨_, rfl⟩
    have hk : k ≤ 1000 := by rw [← HK.out]; exact hle
    have HB2 : Hid (Below G w w2) := HB1.out.trans (hb2.mono (by omega))
    have HR2 : Hid (Room w2 G zs) := HR1.out.below hb2
    have hG2 : G < w2.heap.size := Nat.lt_of_lt_of_le hG1 hb2.size
    rw [HK.out]
    clear hb2 hfr hpe hwf hle hun hok heq
    go_wp2_with fail
    refine (tell_nil w2).mono ?_
    rintro ev w4 ⟨rfl, hb4⟩
    have HB4 : Hid (Below G w w4) := HB2.out.trans (hb4.mono (Nat.le_of_lt hG2))
    have HR4 : Hid (Room w4 G zs) := HR2.out.below hb4
    have HPE4 : Hid (Pe w4 a2 c2 es) := HPE2.out.below hb4
    clear hb4
    go_wp2_with fail
    refine (HST.out w4 HB4.out HR4.out).mono ?_
    rintro ev w5 ⟨rfl, hg5⟩
    have HB5 : Hid (Below G w w5) := HB4.out.grown hg5 (Nat.le_of_lt HR4.out.lt) (fun k hk => by cases hk; exact Nat.le_refl _)
    have HPE5 : Hid (Pe w5 a2 c2 es) := HPE4.out.grown hg5 HFR.out
    have hG5 : G < w5.heap.size := Nat.lt_of_lt_of_le HR4.out.lt hg5.size
    clear hg5
    go_wp2_with fail
    refine (HRR.out w5 HB5.out).mono ?_
    rintro ev w6 ⟨hb6, ad, cd, ed, b, rfl, h1, h2⟩
    obtain ⟨hbt, hed⟩ := read_good HWF.out HUN.out HOK.out HEQ.out h2
    subst hbt
    subst hed
    have HPD6 : Hid (Pe w6 ad cd ed) := (h1 rfl).1
    have HPE6 : Hid (Pe w6 a2 c2 ed) := HPE5.out.below hb6
    have HB6 : Hid (Below G w w6) := HB5.out.trans (hb6.mono (Nat.le_of_lt hG5))
    obtain ⟨H, HH⟩ : ∃ H, Hid (w6.heap.size = H) := ⟨_, rfl⟩
    have hGH : G ≤ H := by rw [← HH.out]; exact Nat.le_trans (Nat.le_of_lt hG5) hb6.size
    clear h1 h2 hb6
    rw [HK.out]
    have HRX : Hid (∀ W, Below H w6 W → ∀ i, i < k → ∃ b1 off1 b2 off2, a2 = some ⟨b1, off1, none⟩ ∧ ad = some ⟨b2, off2, none⟩ ∧ W.rangeAt b1 (off1 + i * 22) (erV (ed.getD i default)) ∧ W.rangeAt b2 (off2 + i * 22) (erV (ed.getD i default))) := fun W hW i hi => by
      obtain ⟨b1, off1, e1, _, e3⟩ := (HPE6.out.below (by rw [HH.out]; exact hW)).at_ (by rw [HK.out]; omega)
      obtain ⟨b2, off2, f1, _, f3⟩ := (HPD6.out.below (by rw [HH.out]; exact hW)).at_ (by rw [HK.out]; omega)
      exact ⟨b1, off1, b2, off2, e1, f1, e3 i (by rw [HK.out]; exact hi), f3 i (by rw [HK.out]; exact hi)⟩
    have HB66 : Hid (Below H w6 w6) := Below.refl _ _
    go_wp2_with fail
    go_loopg [10] k (fun g iv wr => ∃ i : Nat, i ≤ k ∧ g = k - i ∧ iv = .int .i64 i ∧ Hid (Below H w6 wr))
    case atStart => exact ⟨0, Nat.zero_le _, rfl, rfl, HB66⟩
    case round =>
      obtain ⟨i, hi, hgi, rfl, HBr⟩ := hrel
      by_cases hlt : i < k
      · have hlti : (i : Int) < (k : Int) := by omega
        obtain ⟨b1, off1, b2, off2, hae, hdd, _⟩ := HRX.out wr HBr.out i hlt
        subst hae
        subst hdd
        obtain ⟨x, HX⟩ : ∃ x, Hid (ed.getD i default = x) := ⟨_, rfl⟩
        have hxm : x ∈ ed := by
          rw [← HX.out, List.getD_eq_getElem?_getD, List.getElem?_eq_getElem (by rw [HK.out]; exact hlt)]
          exact List.getElem_mem _
        have HX20 : Hid (x.id.length = 20) := (HWF.out x hxm).1
        obtain ⟨S, HS⟩ : ∃ S : ByteArray, Hid ((⟨x.name.toArray⟩ : ByteArray) = S) := ⟨_, rfl⟩
        obtain ⟨m, HM⟩ : ∃ m, Hid (x.mode = m) := ⟨_, rfl⟩
        obtain ⟨RI, HRI⟩ : ∃ R, Hid (row .u8 x.id = R) := ⟨_, rfl⟩
        have hi32 : (Tryz.prog.info? 32).map (·.size) = some RI.length := by rw [← HRI.out, row_len, HX20.out]; exact Tryz.size32
        have hi31 : (Tryz.prog.info? 31).map (·.size) = some RI.length := by rw [← HRI.out, row_len, HX20.out]; exact Tryz.size31
        have hsm : ∀ w : World, (Op.equalIn 10000 32 (.agg RI.toArray) (.agg RI.toArray)).run Tryz.prog w = .ok true w := fun w => by rw [← HRI.out]; exact same25 x.id HX20.out w
        have HBd : Hid (Below H w6 wr.drew) := hid (below_drewH HBr.out 1)
        have HQd : Hid (QP b1 (off1 + i * 22) b2 (off2 + i * 22) m S RI wr.drew) := hid (by
          obtain ⟨b1', off1', b2', off2', e1, e2, e3, e4⟩ := HRX.out wr.drew HBd.out i hlt
          cases e1
          cases e2
          have q1 := qe_of e3
          have q2 := qe_of e4
          rw [HX.out, HM.out, HS.out, HRI.out] at q1 q2
          exact ⟨q1.c0, q1.c1, q1.r2, q2.c0, q2.c1, q2.r2⟩)
        clear hxm
        go_wp2_with fail
        refine wp_region_held_drew (S := QP b1 (off1 + i * 22) b2 (off2 + i * 22) m S RI) (by kernel_rfl) (by exact HQd.out) (fun hHeld => ?_)
        generalize wr.drew = u0 at hHeld HBd HQd ⊢
        clear HQd
        refine takeL (i := 0) (v := ?_) rfl (by kernel_rfl) (by kernel_rfl) (by kernel_rfl) (fun _ _ _ h => h) (Or.inl ⟨by rfl, ?_⟩) hHeld ?_
        rotate_left
        · rintro w' ⟨c0, c1, r2, d0, d1, s2⟩; go_simp; rfl
        try simp only [Act.put, List.setIfInBounds_toArray, List.set_cons_zero, List.set_cons_succ]
        refine takeL (i := 1) (v := ?_) rfl (by kernel_rfl) (by kernel_rfl) (by kernel_rfl) (fun _ _ _ h => h) (Or.inl ⟨by rfl, ?_⟩) hHeld ?_
        rotate_left
        · rintro w' ⟨c0, c1, r2, d0, d1, s2⟩; go_simp; rfl
        try simp only [Act.put, List.setIfInBounds_toArray, List.set_cons_zero, List.set_cons_succ]
        refine takeL (i := 2) (v := ?_) rfl (by kernel_rfl) (by kernel_rfl) (by kernel_rfl) (fun _ _ _ h => h) (Or.inl ⟨by rfl, ?_⟩) hHeld ?_
        rotate_left
        · rintro w' ⟨c0, c1, r2, d0, d1, s2⟩; go_simp; rfl
        try simp only [Act.put, List.setIfInBounds_toArray, List.set_cons_zero, List.set_cons_succ]
        refine takeL (i := 3) (v := ?_) rfl (by kernel_rfl) (by kernel_rfl) (by kernel_rfl) (fun _ _ _ h => h) (Or.inl ⟨by rfl, ?_⟩) hHeld ?_
        rotate_left
        · rintro w' ⟨c0, c1, r2, d0, d1, s2⟩; go_simp; rfl
        try simp only [Act.put, List.setIfInBounds_toArray, List.set_cons_zero, List.set_cons_succ]
        refine takeL (i := 4) (v := ?_) rfl (by kernel_rfl) (by kernel_rfl) (by kernel_rfl) (fun _ _ _ h => h) (Or.inl ⟨by rfl, ?_⟩) hHeld ?_
        rotate_left
        · rintro w' ⟨c0, c1, r2, d0, d1, s2⟩; go_simp; rfl
        try simp only [Act.put, List.setIfInBounds_toArray, List.set_cons_zero, List.set_cons_succ]
        refine takeL (i := 5) (v := ?_) rfl (by kernel_rfl) (by kernel_rfl) (by kernel_rfl) (fun _ _ _ h => h) (Or.inl ⟨by rfl, ?_⟩) hHeld ?_
        rotate_left
        · rintro w' ⟨c0, c1, r2, d0, d1, s2⟩; go_simp; rfl
        try simp only [Act.put, List.setIfInBounds_toArray, List.set_cons_zero, List.set_cons_succ]
        refine takeL (i := 6) (v := ?_) rfl (by kernel_rfl) (by kernel_rfl) (by kernel_rfl) (fun _ _ _ h => h) (Or.inl ⟨by rfl, ?_⟩) hHeld ?_
        rotate_left
        · rintro w' ⟨c0, c1, r2, d0, d1, s2⟩; go_simp; rfl
        try simp only [Act.put, List.setIfInBounds_toArray, List.set_cons_zero, List.set_cons_succ]
        refine takeL (i := 7) (v := ?_) rfl (by kernel_rfl) (by kernel_rfl) (by kernel_rfl) (fun _ _ _ h => h) (Or.inl ⟨by rfl, ?_⟩) hHeld ?_
        rotate_left
        · rintro w' ⟨c0, c1, r2, d0, d1, s2⟩; go_simp; rfl
        try simp only [Act.put, List.setIfInBounds_toArray, List.set_cons_zero, List.set_cons_succ]
        refine takeL (i := 8) (v := ?_) rfl (by kernel_rfl) (by kernel_rfl) (by kernel_rfl) (fun _ _ _ h => h) (Or.inl ⟨by rfl, ?_⟩) hHeld ?_
        rotate_left
        · rintro w' ⟨c0, c1, r2, d0, d1, s2⟩; go_simp; rfl
        try simp only [Act.put, List.setIfInBounds_toArray, List.set_cons_zero, List.set_cons_succ]
        refine takeL (i := 9) (v := ?_) rfl (by kernel_rfl) (by kernel_rfl) (by kernel_rfl) (fun _ _ _ h => h) (Or.inl ⟨by rfl, ?_⟩) hHeld ?_
        rotate_left
        · rintro w' ⟨c0, c1, r2, d0, d1, s2⟩; go_simp; rfl
        try simp only [Act.put, List.setIfInBounds_toArray, List.set_cons_zero, List.set_cons_succ]
        refine takeL (i := 10) (v := ?_) rfl (by kernel_rfl) (by kernel_rfl) (by kernel_rfl) (fun _ _ _ h => h) (Or.inl ⟨by rfl, ?_⟩) hHeld ?_
        rotate_left
        · rintro w' ⟨c0, c1, r2, d0, d1, s2⟩; go_simp; rfl
        try simp only [Act.put, List.setIfInBounds_toArray, List.set_cons_zero, List.set_cons_succ]
        refine takeL (i := 11) (v := ?_) rfl (by kernel_rfl) (by kernel_rfl) (by kernel_rfl) (fun _ _ _ h => h) (Or.inl ⟨by rfl, ?_⟩) hHeld ?_
        rotate_left
        · rintro w' ⟨c0, c1, r2, d0, d1, s2⟩; go_simp; rfl
        try simp only [Act.put, List.setIfInBounds_toArray, List.set_cons_zero, List.set_cons_succ]
        refine takeL (i := 12) (v := ?_) rfl (by kernel_rfl) (by kernel_rfl) (by kernel_rfl) (fun _ _ _ h => h) (Or.inl ⟨by rfl, ?_⟩) hHeld ?_
        rotate_left
        · rintro w' ⟨c0, c1, r2, d0, d1, s2⟩; go_simp; rfl
        try simp only [Act.put, List.setIfInBounds_toArray, List.set_cons_zero, List.set_cons_succ]
        refine takeL (i := 13) (v := ?_) rfl (by kernel_rfl) (by kernel_rfl) (by kernel_rfl) (fun _ _ _ h => h) (Or.inl ⟨by rfl, ?_⟩) hHeld ?_
        rotate_left
        · rintro w' ⟨c0, c1, r2, d0, d1, s2⟩; go_simp; rfl
        try simp only [Act.put, List.setIfInBounds_toArray, List.set_cons_zero, List.set_cons_succ]
        refine takeL (i := 14) (v := ?_) rfl (by kernel_rfl) (by kernel_rfl) (by kernel_rfl) (fun _ _ _ h => h) (Or.inl ⟨by rfl, ?_⟩) hHeld ?_
        rotate_left
        · rintro w' ⟨c0, c1, r2, d0, d1, s2⟩; go_simp; rfl
        try simp only [Act.put, List.setIfInBounds_toArray, List.set_cons_zero, List.set_cons_succ]
        refine takeL (i := 15) (v := ?_) rfl (by kernel_rfl) (by kernel_rfl) (by kernel_rfl) (fun _ _ _ h => h) (Or.inl ⟨by rfl, ?_⟩) hHeld ?_
        rotate_left
        · rintro w' ⟨c0, c1, r2, d0, d1, s2⟩; go_simp; rfl
        try simp only [Act.put, List.setIfInBounds_toArray, List.set_cons_zero, List.set_cons_succ]
        refine takeL (i := 16) (v := ?_) rfl (by kernel_rfl) (by kernel_rfl) (by kernel_rfl) (fun _ _ _ h => h) (Or.inl ⟨by rfl, ?_⟩) hHeld ?_
        rotate_left
        · rintro w' ⟨c0, c1, r2, d0, d1, s2⟩; go_simp; rfl
        try simp only [Act.put, List.setIfInBounds_toArray, List.set_cons_zero, List.set_cons_succ]
        refine takeL (i := 17) (v := ?_) rfl (by kernel_rfl) (by kernel_rfl) (by kernel_rfl) (fun _ _ _ h => h) (Or.inl ⟨by rfl, ?_⟩) hHeld ?_
        rotate_left
        · rintro w' ⟨c0, c1, r2, d0, d1, s2⟩; go_simp; rfl
        try simp only [Act.put, List.setIfInBounds_toArray, List.set_cons_zero, List.set_cons_succ]
        refine takeL (i := 18) (v := ?_) rfl (by kernel_rfl) (by kernel_rfl) (by kernel_rfl) (fun _ _ _ h => h) (Or.inl ⟨by rfl, ?_⟩) hHeld ?_
        rotate_left
        · rintro w' ⟨c0, c1, r2, d0, d1, s2⟩; go_simp; rfl
        try simp only [Act.put, List.setIfInBounds_toArray, List.set_cons_zero, List.set_cons_succ]
        refine takeL (i := 19) (v := ?_) rfl (by kernel_rfl) (by kernel_rfl) (by kernel_rfl) (fun _ _ _ h => h) (Or.inl ⟨by rfl, ?_⟩) hHeld ?_
        rotate_left
        · rintro w' ⟨c0, c1, r2, d0, d1, s2⟩; go_simp; rfl
        try simp only [Act.put, List.setIfInBounds_toArray, List.set_cons_zero, List.set_cons_succ]
        refine takeL (i := 20) (v := ?_) rfl (by kernel_rfl) (by kernel_rfl) (by kernel_rfl) (fun _ _ _ h => h) (Or.inl ⟨by rfl, ?_⟩) hHeld ?_
        rotate_left
        · rintro w' ⟨c0, c1, r2, d0, d1, s2⟩; go_simp; rfl
        try simp only [Act.put, List.setIfInBounds_toArray, List.set_cons_zero, List.set_cons_succ]
        refine takeL (i := 21) (v := ?_) rfl (by kernel_rfl) (by kernel_rfl) (by kernel_rfl) (fun _ _ _ h => h) (Or.inl ⟨by rfl, ?_⟩) hHeld ?_
        rotate_left
        · rintro w' ⟨c0, c1, r2, d0, d1, s2⟩; go_simp; rfl
        try simp only [Act.put, List.setIfInBounds_toArray, List.set_cons_zero, List.set_cons_succ]
        refine takeL (i := 22) (v := ?_) rfl (by kernel_rfl) (by kernel_rfl) (by kernel_rfl) (fun _ _ _ h => h) (Or.inl ⟨by rfl, ?_⟩) hHeld ?_
        rotate_left
        · rintro w' ⟨c0, c1, r2, d0, d1, s2⟩; go_simp; rfl
        try simp only [Act.put, List.setIfInBounds_toArray, List.set_cons_zero, List.set_cons_succ]
        refine takeL (i := 23) (v := ?_) rfl (by kernel_rfl) (by kernel_rfl) (by kernel_rfl) (fun _ _ _ h => h) (Or.inl ⟨by rfl, ?_⟩) hHeld ?_
        rotate_left
        · rintro w' ⟨c0, c1, r2, d0, d1, s2⟩; go_simp; rfl
        try simp only [Act.put, List.setIfInBounds_toArray, List.set_cons_zero, List.set_cons_succ]
        refine takeL (i := 24) (v := ?_) rfl (by kernel_rfl) (by kernel_rfl) (by kernel_rfl) (fun _ _ _ h => h) (Or.inl ⟨by rfl, ?_⟩) hHeld ?_
        rotate_left
        · rintro w' ⟨c0, c1, r2, d0, d1, s2⟩; go_simp; rfl
        try simp only [Act.put, List.setIfInBounds_toArray, List.set_cons_zero, List.set_cons_succ]
        refine takeL (i := 25) (v := ?_) rfl (by kernel_rfl) (by kernel_rfl) (by kernel_rfl) (fun _ _ _ h => h) (Or.inl ⟨by rfl, ?_⟩) hHeld ?_
        rotate_left
        · rintro w' ⟨c0, c1, r2, d0, d1, s2⟩; go_simp; rfl
        try simp only [Act.put, List.setIfInBounds_toArray, List.set_cons_zero, List.set_cons_succ]
        refine takeL (i := 26) (v := ?_) rfl (by kernel_rfl) (by kernel_rfl) (by kernel_rfl) (fun _ _ _ h => h) (Or.inl ⟨by rfl, ?_⟩) hHeld ?_
        rotate_left
        · rintro w' ⟨c0, c1, r2, d0, d1, s2⟩; go_simp; rfl
        try simp only [Act.put, List.setIfInBounds_toArray, List.set_cons_zero, List.set_cons_succ]
        refine takeL (i := 27) (v := ?_) rfl (by kernel_rfl) (by kernel_rfl) (by kernel_rfl) (fun _ _ _ h => h) (Or.inl ⟨by rfl, ?_⟩) hHeld ?_
        rotate_left
        · rintro w' ⟨c0, c1, r2, d0, d1, s2⟩; go_simp; rfl
        try simp only [Act.put, List.setIfInBounds_toArray, List.set_cons_zero, List.set_cons_succ]
        refine takeL (i := 28) (v := ?_) rfl (by kernel_rfl) (by kernel_rfl) (by kernel_rfl) (fun _ _ _ h => h) (Or.inl ⟨by rfl, ?_⟩) hHeld ?_
        rotate_left
        · rintro w' ⟨c0, c1, r2, d0, d1, s2⟩; go_simp; rfl
        try simp only [Act.put, List.setIfInBounds_toArray, List.set_cons_zero, List.set_cons_succ]
        refine takeL (i := 29) (v := .agg RI.toArray) rfl (by kernel_rfl) (by kernel_rfl) (by kernel_rfl) (fun _ _ _ h => h) (yieldsIf_load_mid (by rfl) 32 _ rfl b1 (off1 + i * 22 + 2) (by rfl) RI _ (fun w' h => h.r2) Tryz.underlying32 rfl hi32) hHeld ?_
        try simp only [Act.put, List.setIfInBounds_toArray, List.set_cons_zero, List.set_cons_succ]
        refine takeL (i := 30) (v := ?_) rfl (by kernel_rfl) (by kernel_rfl) (by kernel_rfl) (fun _ _ _ h => h) (Or.inl ⟨by rfl, ?_⟩) hHeld ?_
        rotate_left
        · rintro w' ⟨c0, c1, r2, d0, d1, s2⟩; go_simp; rfl
        try simp only [Act.put, List.setIfInBounds_toArray, List.set_cons_zero, List.set_cons_succ]
        refine takeL (i := 31) (v := ?_) rfl (by kernel_rfl) (by kernel_rfl) (by kernel_rfl) (fun _ _ _ h => h) (Or.inl ⟨by rfl, ?_⟩) hHeld ?_
        rotate_left
        · rintro w' ⟨c0, c1, r2, d0, d1, s2⟩; go_simp; rfl
        try simp only [Act.put, List.setIfInBounds_toArray, List.set_cons_zero, List.set_cons_succ]
        refine takeL (i := 32) (v := ?_) rfl (by kernel_rfl) (by kernel_rfl) (by kernel_rfl) (fun _ _ _ h => h) (Or.inl ⟨by rfl, ?_⟩) hHeld ?_
        rotate_left
        · rintro w' ⟨c0, c1, r2, d0, d1, s2⟩; go_simp; rfl
        try simp only [Act.put, List.setIfInBounds_toArray, List.set_cons_zero, List.set_cons_succ]
        refine takeL (i := 33) (v := ?_) rfl (by kernel_rfl) (by kernel_rfl) (by kernel_rfl) (fun _ _ _ h => h) (Or.inl ⟨by rfl, ?_⟩) hHeld ?_
        rotate_left
        · rintro w' ⟨c0, c1, r2, d0, d1, s2⟩; go_simp; rfl
        try simp only [Act.put, List.setIfInBounds_toArray, List.set_cons_zero, List.set_cons_succ]
        refine takeL (i := 34) (v := .agg RI.toArray) rfl (by kernel_rfl) (by kernel_rfl) (by kernel_rfl) (fun _ _ _ h => h) (yieldsIf_load_mid (by rfl) 31 _ rfl b2 (off2 + i * 22 + 2) (by rfl) RI _ (fun w' h => h.s2) Tryz.underlying31 rfl hi31) hHeld ?_
        try simp only [Act.put, List.setIfInBounds_toArray, List.set_cons_zero, List.set_cons_succ]
        refine takeL (i := 35) (v := ?_) rfl (by kernel_rfl) (by kernel_rfl) (by kernel_rfl) (fun _ _ _ h => h) (Or.inl ⟨by rfl, ?_⟩) hHeld ?_
        rotate_left
        · rintro w' ⟨c0, c1, r2, d0, d1, s2⟩; go_simp; rfl
        try simp only [Act.put, List.setIfInBounds_toArray, List.set_cons_zero, List.set_cons_succ]
        refine takeL (i := 36) (v := ?_) rfl (by kernel_rfl) (by kernel_rfl) (by kernel_rfl) (fun _ _ _ h => h) (Or.inl ⟨by rfl, ?_⟩) hHeld ?_
        rotate_left
        · rintro w' ⟨c0, c1, r2, d0, d1, s2⟩; go_simp; rfl
        try simp only [Act.put, List.setIfInBounds_toArray, List.set_cons_zero, List.set_cons_succ]
        refine wpAnyH_done (by kernel_rfl) ?_ _
        clear hHeld hsm
        go_wp2
        go_roundg (k - (i + 1))
        case measure => omega
        case rel => exact ⟨i + 1, by omega, rfl, by go_num, HBd⟩
      · have hlti : ¬ (i : Int) < (k : Int) := by omega
        have HBZ : Hid (Below G w wr) := hid (HB6.out.trans (HBr.out.mono hGH))
        go_wp2
        go_ret
        exact ⟨rfl, HBZ.out⟩
  · have HUN : Hid (∀ u, okTr u → treeB u = l → es = u) := hun
    have HNO : Hid (¬ (okL es ∧ treeB (srtE es) = l)) := hno
    have HB2 : Hid (Below G w w2) := HB1.out.trans (hb2.mono (by omega))
    have HR2 : Hid (Room w2 G zs) := HR1.out.below hb2
    have hG2 : G < w2.heap.size := Nat.lt_of_lt_of_le hG1 hb2.size
    clear hb2 hfr hpe hwf hle hun hno
    go_wp2_with fail
    refine (HTE.out w2 HB2.out).mono ?_
    rintro ev w4 ⟨rfl, hb4⟩
    have HB4 : Hid (Below G w w4) := HB2.out.trans (hb4.mono (Nat.le_of_lt hG2))
    have HR4 : Hid (Room w4 G zs) := HR2.out.below hb4
    clear hb4
    go_wp2_with fail
    refine (HST.out w4 HB4.out HR4.out).mono ?_
    rintro ev w5 ⟨rfl, hg5⟩
    have HB5 : Hid (Below G w w5) := HB4.out.grown hg5 (Nat.le_of_lt HR4.out.lt) (fun k hk => by cases hk; exact Nat.le_refl _)
    have hG5 : G < w5.heap.size := Nat.lt_of_lt_of_le HR4.out.lt hg5.size
    clear hg5
    go_wp2_with fail
    refine (HRR.out w5 HB5.out).mono ?_
    rintro ev w6 ⟨hb6, ad, cd, ed, b, rfl, h1, h2⟩
    have hbf : b = false := by
      cases b with
      | false => rfl
      | true =>
        have h := h1 rfl
        exact absurd ⟨h.2.2.1, h.2.2.2⟩ (read_bad HUN.out HNO.out h.2.1)
    subst hbf
    have HB6 : Hid (Below G w w6) := HB5.out.trans (hb6.mono (Nat.le_of_lt hG5))
    clear h1 h2 hb6
    go_wp2
    go_ret
    exact ⟨rfl, HB6.out⟩
end Go.Proofs.YtbpdielmdhhdfaaGreatDoor
/- The law's 'readsTag'. -/
namespace Go.Proofs.YtbpdielmdhhdfaaGreatDoor
open Go.RowKit
set_option linter.unusedVariables false
set_option linter.unusedSimpArgs false
set_option maxRecDepth 20000 in
set_option maxHeartbeats 4000000 in
theorem readsTag_any (a : Option Addr) (cap : Nat) (zs : List Int) (w : World) (hl : zs.length ≤ 200000) (hz : IsB zs) (hS : Sl w a cap zs) (hw : Lw w) (he : Ers w) :
    Calls Tryz.prog 29 #[.slice a zs.length cap] w fun e w' => e = .returned (.bool true) ∧ Below w.heap.size w w' := by
  obtain ⟨n, HN⟩ : ∃ n, Hid (zs.length = n) := ⟨_, rfl⟩
  obtain ⟨G, HG⟩ : ∃ G, Hid (w.heap.size = G) := ⟨_, rfl⟩
  obtain ⟨l, HL⟩ : ∃ l, Hid (Lib.bytesOf zs = l) := ⟨_, rfl⟩
  obtain ⟨ZV, HZ⟩ : ∃ l : List Value, Hid (l = tgV (tg0 z20)) := ⟨_, rfl⟩
  have hz71 : ∀ w : World, (zeroValue 71).run Tryz.prog w = .ok (.agg ZV.toArray) w := fun w => by rw [HZ.out]; exact zero71 w
  have hz75 : ∀ w : World, (zeroValue 75).run Tryz.prog w = .ok (.agg ZV.toArray) w := fun w => by rw [HZ.out]; exact zero75 w
  have HZL : Hid (ZV.length = 27) := hid (by rw [HZ.out]; exact tgV_len _ rfl)
  have HLW : Hid (∀ W, Below G w W → Lw W) := fun W hW => hw.below (by rw [HG.out]; exact hW)
  have HER : Hid (∀ W, Below G w W → Ers W) := fun W hW => he.below (by rw [HG.out]; exact hW)
  have HSS : Hid (∀ W, Below G w W → Sl W a cap zs) := fun W hW => hS.below (by rw [HG.out]; exact hW)
  have HSB : Hid (0 < zs.length → ∃ b off, a = some ⟨b, off, none⟩ ∧ b < G) := fun h0 => by
    obtain ⟨b, off, e1, e2, _⟩ := hS.at_ h0
    exact ⟨b, off, e1, by rw [← HG.out]; exact e2⟩
  have HR8 : Hid (Calls Tryz.prog 8 #[.slice a n cap] w fun e w' => e = .returned (.slice (some ⟨G, 0, none⟩) n (n + 2)) ∧ Below G w w' ∧ Room w' G zs) := by
    have := roomy_any a cap zs w (by omega) hS.at_
    rw [HN.out, HG.out] at this
    exact this
  have HRT : Hid (∀ W, Below G w W → Room W G zs → Calls Tryz.prog 67 #[.slice (some ⟨G, 0, none⟩) n (n + 2)] W fun e w' => Below W.heap.size W w' ∧ PostB l e) := fun W hW hr => by
    have := readTag_any (some ⟨G, 0, none⟩) (zs.length + 2) zs hl hz W (HLW.out W hW).tab (HER.out W hW) (HLW.out W hW).mx hr.sl
    rw [HN.out, HL.out] at this
    exact this
  have HRR : Hid (∀ W, Below G w W → Calls Tryz.prog 68 #[.slice a n cap] W fun e w' => Below W.heap.size W w' ∧ PostRT l e) := fun W hW => by
    have := readTagR_any a cap zs hl W (HSS.out W hW)
    rw [HN.out, HL.out] at this
    exact this
  have HST : Hid (∀ W, Below G w W → Room W G zs → Calls Tryz.prog 12 #[.slice (some ⟨G, 0, none⟩) n (n + 2), .slice a n cap] W fun e w' => e = .returned (.bool true) ∧ W.grownBy w' (some G)) := fun W hW hr => by
    have := still_keep a cap G zs W (by omega) hz hr (fun h0 => by
      obtain ⟨b, off, e1, e2, e3⟩ := (HSS.out W hW).at_ h0
      obtain ⟨b', off', e1', e2'⟩ := HSB.out h0
      rw [e1] at e1'
      cases e1'
      exact ⟨b, off, e1, e2', e3⟩)
    rw [HN.out] at this
    exact this
  have HTE : Hid (∀ W, Below G w W → Calls Tryz.prog 11 #[.iface 35 (.int .i64 23)] W fun e w' => e = .returned (.int .i64 23) ∧ Below W.heap.size W w') := fun W hW => tell_errno 23 W (HLW.out W hW).hand
  rw [HN.out, HG.out]
  clear hS hw he
  go_enter Tryz.func29, Tryz.ntmps29
  go_wp2_with fail
  refine HR8.out.mono ?_
  rintro ev w1 ⟨rfl, hb1, hr1⟩
  have HB1 : Hid (Below G w w1) := hb1
  have HR1 : Hid (Room w1 G zs) := hr1
  have hG1 : G < w1.heap.size := hr1.lt
  clear hb1 hr1
  go_wp2_with fail
  refine (HRT.out w1 HB1.out HR1.out).mono ?_
  rintro ev w2 ⟨hb2, T, htg, ⟨⟨hok, heq⟩, rfl⟩ | ⟨hno, rfl⟩⟩
  · have HWT : Hid (Wf T) := ⟨htg.1.1, htg.1.2.1⟩
    have HTG : Hid (TG l T) := htg
    have HOK : Hid (okG T) := hok
    have HEQ : Hid (tagB T = l) := heq
    have hb2s := hb2.size
    clear htg hok heq
    obtain ⟨TV, HTV⟩ : ∃ l : List Value, Hid (tgV T = l) := ⟨_, rfl⟩
    have HVL : Hid (TV.length = 27) := hid (by rw [← HTV.out]; exact tgV_len T HWT.out.1)
    have I71 : Hid ((Tryz.prog.info? 71).map (·.size) = some TV.toArray.size) := hid (by rw [List.size_toArray, HVL.out]; exact Tryz.size71)
    have I75 : Hid ((Tryz.prog.info? 75).map (·.size) = some TV.toArray.size) := hid (by rw [List.size_toArray, HVL.out]; exact Tryz.size75)
    have O1 : Hid (TV.toArray.all (·.oneCell') = true) := hid (by rw [← HTV.out]; exact all_oneCell_toArray (tgV_one T))
    have D1 : Hid (ZV.toArray.size = TV.toArray.size) := hid (by rw [List.size_toArray, List.size_toArray, HZL.out, HVL.out])
    have D0 : Hid ((w2.alloc (.cells ZV.toArray 71)).heap[w2.heap.size]? = some (.cells ZV.toArray 71 (0, 0))) := heap_alloc_new w2 _
    obtain ⟨w3, HW3⟩ : ∃ w3, Hid ((w2.alloc (.cells ZV.toArray 71)).setRow w2.heap.size TV.toArray = w3) := ⟨_, rfl⟩
    obtain ⟨H, HH⟩ : ∃ H, Hid (w2.heap.size = H) := ⟨_, rfl⟩
    have hGH : G < H := by rw [← HH.out]; omega
    have hb23 : Below w2.heap.size w2 w3 := by rw [← HW3.out]; exact below_setRow ((Below.refl _ w2).alloc (Nat.le_refl _) _) (Nat.le_refl _) _
    have hb3 : Below w1.heap.size w1 w3 := hb2.trans (hb23.mono hb2.size)
    have BX3 : Hid (Bx H TV 71 w3) := ⟨by rw [← HW3.out, ← HH.out]; exact setRow_heap _ _ _ TV.toArray _ _ D0.out⟩
    have HB3 : Hid (Below G w w3) := HB1.out.trans (hb3.mono (by omega))
    have HR3 : Hid (Room w3 G zs) := HR1.out.below hb3
    clear hb2 hb3 hb23
    rw [HTV.out]
    go_wp2_with (first
      | (refine wpList_store_row rfl 71 _ _ rfl w2.heap.size TV.toArray rfl rfl 71 ZV.toArray D0.out I71.out D1.out O1.out ?_; rw [HW3.out, HH.out])
      | fail)
    refine (tell_nil w3).mono ?_
    rintro ev w4 ⟨rfl, hb4⟩
    have hb4s := hb4.size
    have HB4 : Hid (Below G w w4) := HB3.out.trans (hb4.mono (Nat.le_of_lt (Nat.lt_of_lt_of_le hG1 (Nat.le_trans hb2s (by have := BX3.out.lt; have := HH.out; omega)))))
    have HR4 : Hid (Room w4 G zs) := HR3.out.below hb4
    have BX4 : Hid (Bx H TV 71 w4) := BX3.out.below hb4
    clear hb4
    go_wp2_with fail
    refine (HST.out w4 HB4.out HR4.out).mono ?_
    rintro ev w5 ⟨rfl, hg5⟩
    have HB5 : Hid (Below G w w5) := HB4.out.grown hg5 (Nat.le_of_lt HR4.out.lt) (fun k hk => by cases hk; exact Nat.le_refl _)
    have BX5 : Hid (Bx H TV 71 w5) := BX4.out.grown hg5 (by omega)
    clear hg5
    go_wp2_with fail
    refine (HRR.out w5 HB5.out).mono ?_
    rintro ev w6 ⟨hb6, t, b, rfl, hwf, h1, h2⟩
    have hbt := h2 T HWT.out HOK.out HEQ.out
    subst hbt
    obtain ⟨g1, g2⟩ := h1 rfl
    have htT := tg_back t T hwf.1 hwf.2 g1 (by rw [g2]; exact HTG.out)
    subst htT
    clear h1 h2 g1 g2 hwf
    have hb6s := hb6.size
    have BX6 : Hid (Bx H TV 71 w6) := BX5.out.below hb6
    obtain ⟨w7, HW7⟩ : ∃ w7, Hid ((w6.alloc (.cells ZV.toArray 75)).setRow w6.heap.size TV.toArray = w7) := ⟨_, rfl⟩
    obtain ⟨J, HJ⟩ : ∃ J, Hid (w6.heap.size = J) := ⟨_, rfl⟩
    have D6 : Hid ((w6.alloc (.cells ZV.toArray 75)).heap[w6.heap.size]? = some (.cells ZV.toArray 75 (0, 0))) := heap_alloc_new w6 _
    have hb67 : Below w6.heap.size w6 w7 := by rw [← HW7.out]; exact below_setRow ((Below.refl _ w6).alloc (Nat.le_refl _) _) (Nat.le_refl _) _
    have BX7 : Hid (Bx H TV 71 w7) := BX6.out.below hb67
    have BY7 : Hid (Bx J TV 75 w7) := ⟨by rw [← HW7.out, ← HJ.out]; exact setRow_heap _ _ _ TV.toArray _ _ D6.out⟩
    have HB7 : Hid (Below G w w7) := HB5.out.trans ((hb6.trans (hb67.mono hb6.size)).mono (Nat.le_of_lt (by have := BX5.out.lt; omega)))
    clear hb6 hb67
    rw [HTV.out]
    obtain ⟨PV, HPV⟩ : ∃ l : List Value, Hid ((perV T.per).toList = l) := ⟨_, rfl⟩
    have CS : Hid (∀ W, Calls Tryz.prog 63 #[.agg PV.toArray, .agg PV.toArray] W fun e w' => e = .returned (.bool true) ∧ Below W.heap.size W w') := fun W => by rw [← HPV.out]; exact samePerson_any T.per W
    have R7 : Hid (w7.rangeAt H 22 PV) := hid (by rw [← HPV.out]; exact (BX7.out.cells HTV.out HWT.out.1).2.1)
    have S7 : Hid (w7.rangeAt J 22 PV) := hid (by rw [← HPV.out]; exact (BY7.out.cells HTV.out HWT.out.1).2.1)
    have hi58 : (Tryz.prog.info? 58).map (·.size) = some PV.length := by rw [← HPV.out]; exact Tryz.size58
    have hi64 : (Tryz.prog.info? 64).map (·.size) = some PV.length := by rw [← HPV.out]; exact Tryz.size64
    go_wp2_with (first
      | (refine wpList_store_row rfl 75 _ _ rfl w6.heap.size TV.toArray rfl rfl 75 ZV.toArray D6.out I75.out D1.out O1.out ?_; rw [HW7.out, HJ.out])
      | refine wpList_load_mid rfl 58 _ rfl H 22 rfl PV _ R7.out Tryz.underlying58 rfl hi58 ?_
      | refine wpList_load_mid rfl 64 _ rfl J 22 rfl PV _ S7.out Tryz.underlying64 rfl hi64 ?_
      | fail)
    refine (CS.out w7).mono ?_
    rintro ev w8 ⟨rfl, hb8⟩
    have BX8 : Hid (Bx H TV 71 w8) := BX7.out.below hb8
    have BY8 : Hid (Bx J TV 75 w8) := BY7.out.below hb8
    have HB8 : Hid (Below G w w8) := HB7.out.trans (hb8.mono (by have := BX7.out.lt; omega))
    clear hb8 hz71 hz75
    obtain ⟨RF, HRF⟩ : ∃ R : List Value, Hid (row .u8 T.id = R) := ⟨_, rfl⟩
    have hsm : ∀ w : World, (Op.equalIn 10000 32 (.agg RF.toArray) (.agg RF.toArray)).run Tryz.prog w = .ok true w := fun w => by rw [← HRF.out]; exact same25 T.id HWT.out.1 w
    have hi32 : (Tryz.prog.info? 32).map (·.size) = some RF.length := by rw [← HRF.out, row_len, HWT.out.1]; exact Tryz.size32
    have hi31 : (Tryz.prog.info? 31).map (·.size) = some RF.length := by rw [← HRF.out, row_len, HWT.out.1]; exact Tryz.size31
    obtain ⟨kd, HKD⟩ : ∃ k, Hid (T.kind = k) := ⟨_, rfl⟩
    obtain ⟨N, HNN⟩ : ∃ S : ByteArray, Hid (⟨T.name.toArray⟩ = S) := ⟨_, rfl⟩
    obtain ⟨M, HMM⟩ : ∃ S : ByteArray, Hid (⟨T.msg.toArray⟩ = S) := ⟨_, rfl⟩
    have QH : Hid (w8.rangeAt H 0 RF) := hid (by rw [← HRF.out]; exact (BX8.out.cells HTV.out HWT.out.1).1.id)
    have QJ : Hid (w8.rangeAt J 0 RF) := hid (by rw [← HRF.out]; exact (BY8.out.cells HTV.out HWT.out.1).1.id)
    have x20 : w8.cell? ⟨H, 20, none⟩ = some (.int .i64 kd) := by rw [← HKD.out]; exact (BX8.out.cells HTV.out HWT.out.1).1.c20
    have y20 : w8.cell? ⟨J, 20, none⟩ = some (.int .i64 kd) := by rw [← HKD.out]; exact (BY8.out.cells HTV.out HWT.out.1).1.c20
    have x21 : w8.cell? ⟨H, 21, none⟩ = some (.string N) := by rw [← HNN.out]; exact (BX8.out.cells HTV.out HWT.out.1).1.c21
    have y21 : w8.cell? ⟨J, 21, none⟩ = some (.string N) := by rw [← HNN.out]; exact (BY8.out.cells HTV.out HWT.out.1).1.c21
    have x26 : w8.cell? ⟨H, 26, none⟩ = some (.string M) := by rw [← HMM.out]; exact (BX8.out.cells HTV.out HWT.out.1).1.c26
    have y26 : w8.cell? ⟨J, 26, none⟩ = some (.string M) := by rw [← HMM.out]; exact (BY8.out.cells HTV.out HWT.out.1).1.c26
    go_wp2_with (first
      | (refine BigFrame.wpList_want (by rfl) (fun K hK => ?_); refine wp_load_mid 32 _ rfl H 0 rfl RF _ QH.out Tryz.underlying32 rfl hi32 ?_; refine hK _ _ ?_; clear hK K)
      | (refine BigFrame.wpList_want (by rfl) (fun K hK => ?_); refine wp_load_mid 31 _ rfl J 0 rfl RF _ QJ.out Tryz.underlying31 rfl hi31 ?_; refine hK _ _ ?_; clear hK K))
    go_ret
    exact ⟨rfl, HB8.out⟩
  · have HTG : Hid (TG l T) := htg
    have HNO : Hid (¬ (okG T ∧ tagB T = l)) := hno
    have hb2s := hb2.size
    clear htg hno
    obtain ⟨YV, HY⟩ : ∃ l : List Value, Hid (tgV (tg0 z20) = l) := ⟨_, rfl⟩
    rw [HY.out]
    have HYL : Hid (YV.length = 27) := hid (by rw [← HY.out]; exact tgV_len _ rfl)
    have I71 : Hid ((Tryz.prog.info? 71).map (·.size) = some YV.toArray.size) := hid (by rw [List.size_toArray, HYL.out]; exact Tryz.size71)
    have O1 : Hid (YV.toArray.all (·.oneCell') = true) := hid (by rw [← HY.out]; exact all_oneCell_toArray (tgV_one _))
    have D0 : Hid ((w2.alloc (.cells ZV.toArray 71)).heap[w2.heap.size]? = some (.cells ZV.toArray 71 (0, 0))) := heap_alloc_new w2 _
    obtain ⟨w3, HW3⟩ : ∃ w3, Hid ((w2.alloc (.cells ZV.toArray 71)).setRow w2.heap.size YV.toArray = w3) := ⟨_, rfl⟩
    obtain ⟨H, HH⟩ : ∃ H, Hid (w2.heap.size = H) := ⟨_, rfl⟩
    have hGH : G < H := by rw [← HH.out]; omega
    have hb23 : Below w2.heap.size w2 w3 := by rw [← HW3.out]; exact below_setRow ((Below.refl _ w2).alloc (Nat.le_refl _) _) (Nat.le_refl _) _
    have hb3 : Below w1.heap.size w1 w3 := hb2.trans (hb23.mono hb2.size)
    have BX3 : Hid (Bx H YV 71 w3) := ⟨by rw [← HW3.out, ← HH.out]; exact setRow_heap _ _ _ YV.toArray _ _ D0.out⟩
    have HB3 : Hid (Below G w w3) := HB1.out.trans (hb3.mono (by omega))
    have HR3 : Hid (Room w3 G zs) := HR1.out.below hb3
    clear hb2 hb3 hb23
    have D1 : Hid (ZV.toArray.size = YV.toArray.size) := hid (by rw [List.size_toArray, List.size_toArray, HZL.out, HYL.out])
    go_wp2_with (first
      | (refine wpList_store_row rfl 71 _ _ rfl w2.heap.size YV.toArray rfl rfl 71 ZV.toArray D0.out I71.out D1.out O1.out ?_; rw [HW3.out, HH.out])
      | fail)
    refine (HTE.out w3 HB3.out).mono ?_
    rintro ev w4 ⟨rfl, hb4⟩
    have HB4 : Hid (Below G w w4) := HB3.out.trans (hb4.mono (by have := BX3.out.lt; omega))
    have HR4 : Hid (Room w4 G zs) := HR3.out.below hb4
    have BX4 : Hid (Bx H YV 71 w4) := BX3.out.below hb4
    clear hb4
    go_wp2_with fail
    refine (HST.out w4 HB4.out HR4.out).mono ?_
    rintro ev w5 ⟨rfl, hg5⟩
    have HB5 : Hid (Below G w w5) := HB4.out.grown hg5 (Nat.le_of_lt HR4.out.lt) (fun k hk => by cases hk; exact Nat.le_refl _)
    have BX5 : Hid (Bx H YV 71 w5) := BX4.out.grown hg5 (by omega)
    clear hg5
    go_wp2_with fail
    refine (HRR.out w5 HB5.out).mono ?_
    rintro ev w6 ⟨hb6, t, b, rfl, hwf, h1, h2⟩
    have hbf : b = false := by
      cases b with
      | false => rfl
      | true =>
        obtain ⟨g1, g2⟩ := h1 rfl
        have htT := tg_back t T hwf.1 hwf.2 g1 (by rw [g2]; exact HTG.out)
        subst htT
        exact absurd ⟨g1, g2⟩ HNO.out
    subst hbf
    obtain ⟨TV, HTV⟩ : ∃ l : List Value, Hid (tgV t = l) := ⟨_, rfl⟩
    have HVL : Hid (TV.length = 27) := hid (by rw [← HTV.out]; exact tgV_len t hwf.1)
    have I75 : Hid ((Tryz.prog.info? 75).map (·.size) = some TV.toArray.size) := hid (by rw [List.size_toArray, HVL.out]; exact Tryz.size75)
    have O2 : Hid (TV.toArray.all (·.oneCell') = true) := hid (by rw [← HTV.out]; exact all_oneCell_toArray (tgV_one t))
    have D2 : Hid (ZV.toArray.size = TV.toArray.size) := hid (by rw [List.size_toArray, List.size_toArray, HZL.out, HVL.out])
    clear h1 h2 hwf
    have BX6 : Hid (Bx H YV 71 w6) := BX5.out.below hb6
    obtain ⟨w7, HW7⟩ : ∃ w7, Hid ((w6.alloc (.cells ZV.toArray 75)).setRow w6.heap.size TV.toArray = w7) := ⟨_, rfl⟩
    obtain ⟨J, HJ⟩ : ∃ J, Hid (w6.heap.size = J) := ⟨_, rfl⟩
    have D6 : Hid ((w6.alloc (.cells ZV.toArray 75)).heap[w6.heap.size]? = some (.cells ZV.toArray 75 (0, 0))) := heap_alloc_new w6 _
    have hb67 : Below w6.heap.size w6 w7 := by rw [← HW7.out]; exact below_setRow ((Below.refl _ w6).alloc (Nat.le_refl _) _) (Nat.le_refl _) _
    have BX7 : Hid (Bx H YV 71 w7) := BX6.out.below hb67
    have HB7 : Hid (Below G w w7) := HB5.out.trans ((hb6.trans (hb67.mono hb6.size)).mono (Nat.le_of_lt (by have := BX5.out.lt; omega)))
    clear hb6 hb67
    rw [HTV.out]
    have x20 : w7.cell? ⟨H, 20, none⟩ = some (.int .i64 0) := (BX7.out.cells HY.out rfl).1.c20
    have x21 : w7.cell? ⟨H, 21, none⟩ = some (.string ⟨#[]⟩) := (BX7.out.cells HY.out rfl).1.c21
    go_wp2_with (first
      | (refine wpList_store_row rfl 75 _ _ rfl w6.heap.size TV.toArray rfl rfl 75 ZV.toArray D6.out I75.out D2.out O2.out ?_; rw [HW7.out, HJ.out])
      | fail)
    go_ret
    exact ⟨rfl, HB7.out⟩
end Go.Proofs.YtbpdielmdhhdfaaGreatDoor
