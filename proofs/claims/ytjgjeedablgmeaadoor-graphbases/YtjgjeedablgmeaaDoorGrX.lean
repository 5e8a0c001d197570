/- The law's 'theirs'. -/
import Derived.Test.YtjgjeedablgmeaaDoorGrW
namespace Go.Proofs.YtjgjeedablgmeaaDoor
open Go.RowKit
set_option linter.unusedVariables false
set_option linter.unusedSimpArgs false
def key (x : Nd) : List Int × List (List Int) × Int := (x.id, x.ps, x.tm)
theorem Tryd.info59 : (Tryd.prog.info? 59).map (fun i => (i.zero, i.size, i.bytes)) = some (some (.agg (ndV nd0).toArray), 22, 56) := by kernel_rfl
set_option maxRecDepth 20000 in
theorem run_build27 (x : Nd) (h : x.id.length = 20) (w : World) : (Instr.buildSlice 27 1 #[(0, .agg (ndV x).toArray)]).run Tryd.prog w = .ok (.slice (some ⟨w.heap.size, 0, none⟩) 1 1) (w.alloc (.cells (ndV x).toArray 59)) := by
  obtain ⟨i, hq, hz, hs, _⟩ := info_parts Tryd.info59
  refine run_buildSlice w 27 59 1 _ (ndV x).toArray i _ Tryd.underlying27 hq hz (by rw [hs]; decide) (by rw [hs]; decide) ?_
  rw [hs]
  obtain ⟨id, ps, pa, pc, tm⟩ := x
  obtain ⟨a0, a1, a2, a3, a4, a5, a6, a7, a8, a9, a10, a11, a12, a13, a14, a15, a16, a17, a18, a19, rfl⟩ := list20 id h
  unfold ndV
  simp only
  generalize ps.length = k
  kernel_rfl
set_option maxRecDepth 20000 in
theorem built59 (x : Nd) (h : x.id.length = 20) : Tryd.prog.built 59 [(0, .agg (row .u8 x.id).toArray), (1, .slice x.pa x.ps.length x.pc), (2, .int .i64 x.tm)] = some (ndV x).toArray := by
  obtain ⟨id, ps, pa, pc, tm⟩ := x
  obtain ⟨a0, a1, a2, a3, a4, a5, a6, a7, a8, a9, a10, a11, a12, a13, a14, a15, a16, a17, a18, a19, rfl⟩ := list20 id h
  unfold ndV
  simp only
  generalize ps.length = k
  kernel_rfl
theorem exec_build {P : Program} {o : Oper} {a : Act} {w : World} (t : TypeId) (parts : Array (Nat × Operand)) (ho : o.op = .build t parts) (cells : Array Value) (h : P.built t (parts.map fun (i, x) => (i, a.eval x)).toList = some cells) : (execOp a.eval o).run P w = .ok (.value (.agg cells)) w := by
  have hr := run_build (P := P) w t (parts.map fun (i, x) => (i, a.eval x)) cells h
  unfold execOp
  simp only [ho, Sem.run_bind, hr, Result.andThen_ok, Sem.run_pure]
theorem Bx.app59 {w0 w : World} {B : Nat} {v : Value} {l : List Nd} (h : Bx ndV 22 59 w0 w B v l) (b : Nat) (y : Nd) (hb : w.rangeAt b 0 (ndV y)) (hy : y.id.length = 20) (hl : l.length ≤ 3000) (ty : TypeId) :
    ∃ v' w', (Builtin.append_ #[27, 27] ty #[v, .slice (some ⟨b, 0, none⟩) 1 1]).run Tryd.prog w = .ok v' w' ∧ Bx ndV 22 59 w0 w' B v' (l ++ [y]) ∧ w.grownBy w' v.ownBlock := by
  obtain ⟨i, hi, hz0, hz1, hz2⟩ := info_parts Tryd.info59
  obtain ⟨v', w', hr, h1, h2, _, h4⟩ := run_append_own_at (P := Tryd.prog) w B 27 ty 59 i (.agg (ndV nd0).toArray) 22 56 Tryd.underlying27 hi hz0 hz1 hz2 rfl (by decide) v _ _ h.own ⟨b, 0, none⟩ 1 1 (ndV y) (by rw [ndV_len y hy]) (fun j u hj => by rw [addr_add]; exact hb j u hj) (ndV_one y) (by unfold maxLen; omega) (by omega) h.le
  refine ⟨v', w', hr, ⟨h.below.grown h2 h.le (fun k hk => (own_lt h.own k hk).1), ?_, Nat.le_trans h.le h2.size⟩, h2⟩
  rw [List.length_append, List.flatMap_append]
  simpa using h1
/-- A node whose parents lie in a row of plain ids. -/
structure NK (w : World) (x : Nd) : Prop where
  nd : NdW w x
  kind : ∀ p : Addr, x.pa = some p → ∃ c fz, w.heap[p.block]? = some (.cells c 41 fz)
theorem NK.below {w w' : World} {x : Nd} (h : NK w x) (hb : Below w.heap.size w w') : NK w' x := ⟨h.nd.below hb, fun p hp => by
  obtain ⟨c, fz, e⟩ := h.kind p hp
  exact ⟨c, fz, (hb.block _ (lt_of_some e)).trans e⟩⟩
theorem NK.grown {w0 w w' : World} {B : Nat} {v : Value} {l : List Nd} {x : Nd} (h : NK w x) (hx : Bx ndV 22 59 w0 w B v l) (hg : w.grownBy w' v.ownBlock) : NK w' x := by
  have hne : ∀ p : Addr, x.pa = some p → some p.block ≠ v.ownBlock := fun p hp e => by
    obtain ⟨c, fz, e1⟩ := h.kind p hp
    obtain ⟨c2, fz2, e2⟩ := kind_of hx p.block e.symm
    rw [e1] at e2
    cases e2
  refine ⟨⟨h.nd.id, h.nd.ps, ⟨h.nd.mem.capl, fun h0 => ?_, h.nd.mem.nil⟩, h.nd.pl⟩, fun p hp => ?_⟩
  · obtain ⟨b, off, e1, e2, e3⟩ := h.nd.mem.at_ h0
    refine ⟨b, off, e1, Nat.lt_of_lt_of_le e2 hg.size, fun i hi j v hv => ?_⟩
    rw [World.cell?_of_block (a := ⟨b, off + i * 20 + j, none⟩) (hg.block b e2 (hne _ e1))]
    exact e3 i hi j v hv
  · obtain ⟨c, fz, e1⟩ := h.kind p hp
    exact ⟨c, fz, (hg.block _ (lt_of_some e1) (hne p hp)).trans e1⟩
structure QE (b o : Nat) (tm : Int) (RI : List Value) (W : World) : Prop where
  r0 : W.rangeAt b o RI
  c21 : W.cell? ⟨b, o + 21, none⟩ = some (.int .i64 tm)
def PostTh (l : List Nd) (w : World) (e : Ending) (w' : World) : Prop := ∃ (v : Value) (l' : List Nd), e = .returned v ∧ Bx ndV 22 59 w w' w.heap.size v l' ∧ l'.map key = l.map key ∧ ∀ x ∈ l', NdW w' x
set_option maxRecDepth 20000 in
set_option maxHeartbeats 2000000 in
theorem theirs_any {w : World} (a : Option Addr) (cap : Nat) (l : List Nd) (hP : Pn w a cap l) (hw : ∀ x ∈ l, NdW w x) (hn : l.length ≤ 40) (hps : ∀ x ∈ l, x.ps.length ≤ 40) : Calls Tryd.prog 9 #[.slice a l.length cap] w (PostTh l w) := by
  obtain ⟨n, HN⟩ : ∃ n, Hid (l.length = n) := ⟨_, rfl⟩
  obtain ⟨G, HG⟩ : ∃ G, Hid (w.heap.size = G) := ⟨_, rfl⟩
  have hn40 : n ≤ 40 := by rw [← HN.out]; exact hn
  have HPA : Hid (∀ W, Below G w W → Pn W a cap l) := fun W hW => hP.below (by rw [HG.out]; exact hW)
  have HWF : Hid (∀ W, Below G w W → ∀ x ∈ l, NdW W x) := fun W hW x hx => (hw x hx).below (by rw [HG.out]; exact hW)
  have HPS : Hid (∀ x ∈ l, x.ps.length ≤ 40) := hps
  have HPL : Hid (0 < n → ∃ b off, a = some ⟨b, off, none⟩) := fun h0 => by
    obtain ⟨b, off, e1, _⟩ := hP.at_ (by rw [HN.out]; exact h0)
    exact ⟨b, off, e1⟩
  have HE0 : Hid (Bx ndV 22 59 w w G (.slice none 0 0) ([] : List Nd)) := hid (bx_nil 59 w G (by rw [HG.out]; exact Nat.le_refl _))
  rw [HN.out]
  clear hP hw hps
  go_enter Tryd.func9, Tryd.ntmps9
  go_wp2_with fail
  go_loopg [3, 4] n (fun g u iv wr => ∃ (i : Nat) (v : Value) (l' : List Nd), v = u ∧ i ≤ n ∧ g = n - i ∧ iv = .int .i64 i ∧ Hid (Bx ndV 22 59 w wr G v l') ∧ Hid (l'.map key = (l.take i).map key) ∧ Hid (∀ x ∈ l', NK wr x))
  case atStart => exact ⟨0, _, [], rfl, Nat.zero_le _, rfl, rfl, HE0, hid (by simp), hid (by simp)⟩
  case round =>
    obtain ⟨i, v, l', hv, hi, hk, rfl, HBE, HKE, HNK⟩ := hrel
    subst hv
    by_cases hlt : i < n
    · have hlti : (i : Int) < (n : Int) := by omega
      obtain ⟨b, off, hae⟩ := HPL.out (by omega)
      subst hae
      obtain ⟨x, HX⟩ : ∃ x, Hid (l.getD i nd0 = x) := ⟨_, rfl⟩
      have hxm : x ∈ l := by rw [← HX.out]; exact getD_mem l i _ (by rw [HN.out]; exact hlt)
      have hxw := HWF.out wr HBE.out.below x hxm
      have HXW : Hid (IdW x.id) := hxw.id
      have HXP : Hid (∀ p ∈ x.ps, IdW p) := hxw.ps
      obtain ⟨k, HK⟩ : ∃ k, Hid (x.ps.length = k) := ⟨_, rfl⟩
      have hk40 : k ≤ 40 := by rw [← HK.out]; exact HPS.out x hxm
      obtain ⟨pa, HPa⟩ : ∃ k, Hid (x.pa = k) := ⟨_, rfl⟩
      obtain ⟨pc, HPc⟩ : ∃ k, Hid (x.pc = k) := ⟨_, rfl⟩
      obtain ⟨tm, HTM⟩ : ∃ t, Hid (x.tm = t) := ⟨_, rfl⟩
      obtain ⟨RI, HRI⟩ : ∃ R, Hid (row .u8 x.id = R) := ⟨_, rfl⟩
      have hiI : (Tryd.prog.info? 42).map (·.size) = some RI.length := by rw [← HRI.out, row_len, HXW.out.1]; exact Tryd.size42
      have HRNG : Hid (∀ W, Below G w W → W.rangeAt b (off + i * 22) (ndV x)) := fun W hW => by
        obtain ⟨b', off', e1, _, e3⟩ := (HPA.out W hW).at_ (by rw [HN.out]; omega)
        cases e1
        have := e3 i (by rw [HN.out]; exact hlt)
        rw [HX.out] at this
        exact this
      have hcell : wr.cell? ⟨b, off + i * 22 + 20, none⟩ = some (.slice pa k pc) := by
        have := nd_ps (HRNG.out wr HBE.out.below) HXW.out.1
        rw [HPa.out, HK.out, HPc.out] at this
        exact this
      have HQ : Hid (∀ W, Below G w W → QE b (off + i * 22) tm RI W) := fun W hW => ⟨by rw [← HRI.out]; exact nd_id (HRNG.out W hW), by rw [← HTM.out]; exact nd_tm (HRNG.out W hW) HXW.out.1⟩
      have C13 : Hid (Calls Tryd.prog 13 #[.slice pa k pc] wr fun e w' => ∃ v, e = .returned v ∧ Bi 41 wr w' wr.heap.size v x.ps) := hid (by
        have := plain_any x.pa x.pc x.ps hxw.mem hxw.ps (by rw [HK.out]; omega)
        rw [HK.out, HPa.out, HPc.out] at this
        exact this)
      clear hxm hxw
      go_wp2_with fail
      refine C13.out.mono ?_
      rintro ev w4 ⟨vp, rfl, hbp⟩
      obtain ⟨ka, kc, hve, hvp, _, hvs⟩ := hbp.px (d := []) (fun z hz => by rw [row_len]; exact (HXP.out z hz).1)
      have hkind : ∀ p : Addr, ka = some p → ∃ c fz, w4.heap[p.block]? = some (.cells c 41 fz) := fun p hp => kind_of hbp p.block (by rw [hve, hp]; rfl)
      rw [HK.out] at hve
      subst hve
      have hb4 := hbp.below
      obtain ⟨x', HX'⟩ : ∃ y : Nd, Hid (y = ⟨x.id, x.ps, ka, kc, x.tm⟩) := ⟨_, rfl⟩
      have hx'id : x'.id = x.id := by rw [HX'.out]
      have HKX : Hid (key x' = key x) := hid (by rw [HX'.out]; rfl)
      have hnk4 : NK w4 x' := ⟨⟨by rw [hx'id]; exact HXW.out, by rw [HX'.out]; exact HXP.out, by rw [HX'.out]; exact hvp, trivial⟩, by rw [HX'.out]; exact hkind⟩
      have hbd4 : Below w4.heap.size w4 w4.drew := below_drewH (Below.refl _ _) 1
      have HBE4 : Hid (Bx ndV 22 59 w w4.drew G v l') := hid ((HBE.out.carry hb4).carry hbd4)
      have HNK4 : Hid (∀ z ∈ l' ++ [x'], NK w4.drew z) := fun z hz => by
        rcases List.mem_append.1 hz with h1 | h1
        · exact ((HNK.out z h1).below hb4).below hbd4
        · have : z = x' := by simpa using h1
          rw [this]; exact hnk4.below hbd4
      obtain ⟨R, HR⟩ : ∃ R : List Value, Hid (ndV x' = R) := ⟨_, rfl⟩
      have HX20 : Hid (x'.id.length = 20) := hid (by rw [hx'id]; exact HXW.out.1)
      have HBU : Hid (Tryd.prog.built 59 [(0, .agg RI.toArray), (1, .slice ka k kc), (2, .int .i64 tm)] = some R.toArray) := hid (by
        have := built59 x' HX20.out
        rw [HR.out, hx'id, HRI.out] at this
        rw [show x'.pa = ka by rw [HX'.out], show x'.ps.length = k by rw [HX'.out]; exact HK.out, show x'.pc = kc by rw [HX'.out], show x'.tm = tm by rw [HX'.out]; exact HTM.out] at this
        exact this)
      have HIL : Hid (l'.length ≤ 3000) := hid (by
        have := congrArg List.length HKE.out
        rw [List.length_map, List.length_map, List.length_take] at this
        omega)
      have HTK : Hid ((l' ++ [x']).map key = (l.take (i + 1)).map key) := hid (by
        rw [take_snocG nd0 l i (by rw [HN.out]; exact hlt), HX.out, List.map_append, List.map_append, HKE.out]
        simp [HKX.out])
      clear hbp hvp hvs hkind hb4 hx'id hnk4 hbd4
      go_wp2_with fail
      refine wp_region_held_drew (S := QE b (off + i * 22) tm RI) (by kernel_rfl) (HQ.out _ HBE4.out.below) (fun hHeld => ?_)
      generalize w4.drew = u0 at hHeld HBE4 HNK4 ⊢
      refine takeL (i := 0) (v := ?_) rfl (by kernel_rfl) (by kernel_rfl) (by kernel_rfl) (fun _ _ _ h => h) (Or.inl ⟨by rfl, ?_⟩) hHeld ?_
      rotate_left
      · rintro w' ⟨r0, c21⟩; go_simp; rfl
      try simp only [Act.put, List.setIfInBounds_toArray, List.set_cons_zero, List.set_cons_succ]
      refine takeL (i := 1) (v := ?_) rfl (by kernel_rfl) (by kernel_rfl) (by kernel_rfl) (fun _ _ _ h => h) (Or.inl ⟨by rfl, ?_⟩) hHeld ?_
      rotate_left
      · rintro w' ⟨r0, c21⟩; go_simp; rfl
      try simp only [Act.put, List.setIfInBounds_toArray, List.set_cons_zero, List.set_cons_succ]
      refine takeL (i := 2) (v := ?_) rfl (by kernel_rfl) (by kernel_rfl) (by kernel_rfl) (fun _ _ _ h => h) (Or.inl ⟨by rfl, ?_⟩) hHeld ?_
      rotate_left
      · rintro w' ⟨r0, c21⟩; go_simp; rfl
      try simp only [Act.put, List.setIfInBounds_toArray, List.set_cons_zero, List.set_cons_succ]
      refine takeL (i := 3) (v := ?_) rfl (by kernel_rfl) (by kernel_rfl) (by kernel_rfl) (fun _ _ _ h => h) (Or.inl ⟨by rfl, ?_⟩) hHeld ?_
      rotate_left
      · rintro w' ⟨r0, c21⟩; go_simp; rfl
      try simp only [Act.put, List.setIfInBounds_toArray, List.set_cons_zero, List.set_cons_succ]
      refine takeL (i := 4) (v := ?_) rfl (by kernel_rfl) (by kernel_rfl) (by kernel_rfl) (fun _ _ _ h => h) (Or.inl ⟨by rfl, ?_⟩) hHeld ?_
      rotate_left
      · rintro w' ⟨r0, c21⟩; go_simp; rfl
      try simp only [Act.put, List.setIfInBounds_toArray, List.set_cons_zero, List.set_cons_succ]
      refine takeL (i := 5) (v := .agg RI.toArray) rfl (by kernel_rfl) (by kernel_rfl) (by kernel_rfl) (fun _ _ _ h => h) (yieldsIf_load_mid (by kernel_rfl) 42 _ rfl b (off + i * 22) (by rfl) RI _ (fun w' h => h.r0) Tryd.underlying42 rfl hiI) hHeld ?_
      try simp only [Act.put, List.setIfInBounds_toArray, List.set_cons_zero, List.set_cons_succ]
      refine takeL (i := 6) (v := ?_) rfl (by kernel_rfl) (by kernel_rfl) (by kernel_rfl) (fun _ _ _ h => h) (Or.inl ⟨by rfl, ?_⟩) hHeld ?_
      rotate_left
      · rintro w' ⟨r0, c21⟩; go_simp; rfl
      try simp only [Act.put, List.setIfInBounds_toArray, List.set_cons_zero, List.set_cons_succ]
      refine takeL (i := 7) (v := ?_) rfl (by kernel_rfl) (by kernel_rfl) (by kernel_rfl) (fun _ _ _ h => h) (Or.inl ⟨by rfl, ?_⟩) hHeld ?_
      rotate_left
      · rintro w' ⟨r0, c21⟩; go_simp; rfl
      try simp only [Act.put, List.setIfInBounds_toArray, List.set_cons_zero, List.set_cons_succ]
      refine takeL (i := 8) (v := ?_) rfl (by kernel_rfl) (by kernel_rfl) (by kernel_rfl) (fun _ _ _ h => h) (Or.inl ⟨by rfl, ?_⟩) hHeld ?_
      rotate_left
      · rintro w' ⟨r0, c21⟩; go_simp; rfl
      try simp only [Act.put, List.setIfInBounds_toArray, List.set_cons_zero, List.set_cons_succ]
      refine takeL (i := 9) (v := ?_) rfl (by kernel_rfl) (by kernel_rfl) (by kernel_rfl) (fun _ _ _ h => h) (Or.inl ⟨by rfl, ?_⟩) hHeld ?_
      rotate_left
      · rintro w' ⟨r0, c21⟩; go_simp; rfl
      try simp only [Act.put, List.setIfInBounds_toArray, List.set_cons_zero, List.set_cons_succ]
      refine takeL (i := 10) (v := ?_) rfl (by kernel_rfl) (by kernel_rfl) (by kernel_rfl) (fun _ _ _ h => h) (Or.inl ⟨by rfl, ?_⟩) hHeld ?_
      rotate_left
      · rintro w' ⟨r0, c21⟩; go_simp; rfl
      try simp only [Act.put, List.setIfInBounds_toArray, List.set_cons_zero, List.set_cons_succ]
      refine takeL (i := 11) (v := ?_) rfl (by kernel_rfl) (by kernel_rfl) (by kernel_rfl) (fun _ _ _ h => h) (Or.inl ⟨by rfl, ?_⟩) hHeld ?_
      rotate_left
      · rintro w' ⟨r0, c21⟩; go_simp; rfl
      try simp only [Act.put, List.setIfInBounds_toArray, List.set_cons_zero, List.set_cons_succ]
      refine takeL (i := 12) (v := .agg R.toArray) rfl (by kernel_rfl) (by kernel_rfl) (by kernel_rfl) (fun _ _ _ h => h) (Or.inl ⟨by rfl, fun w' _ => ?_⟩) hHeld ?_
      · exact exec_build 59 _ rfl R.toArray (by simp only [List.map_toArray, List.map_cons, List.map_nil]; exact HBU.out)
      try simp only [Act.put, List.setIfInBounds_toArray, List.set_cons_zero, List.set_cons_succ]
      obtain ⟨u1, HU1⟩ : ∃ u1, Hid (u0.alloc (.cells R.toArray 59) = u1) := ⟨_, rfl⟩
      obtain ⟨q, HQB⟩ : ∃ q, Hid (u0.heap.size = q) := ⟨_, rfl⟩
      have hbu1 : Below u0.heap.size u0 u1 := by rw [← HU1.out]; exact (Below.refl _ u0).alloc (Nat.le_refl _) _
      have HBE1 : Hid (Bx ndV 22 59 w u1 G v l') := hid (HBE4.out.carry hbu1)
      have HNK1 : Hid (∀ z ∈ l' ++ [x'], NK u1 z) := fun z hz => (HNK4.out z hz).below hbu1
      have R1 : u1.rangeAt q 0 (ndV x') := by rw [HR.out, ← HU1.out, ← HQB.out]; exact range_row (heap_alloc_new u0 _)
      refine wpAnyH_ready (rs := [13]) (by kernel_rfl) (by simp) ?_
      refine consL rfl (fun KK hKK => ?_) AllReadyH.nil
      refine step_exec (by rfl) (.slice (some ⟨q, 0, none⟩) 1 1) (w' := u1) (by
        have hb := run_build27 x' HX20.out u0
        rw [HR.out, HU1.out, HQB.out] at hb
        exact exec_buildS 27 1 _ rfl (.agg R.toArray) _ rfl hb) ?_
      refine hKK.out _ _ (HQ.out _ HBE1.out.below) (fun hHeld => ?_)
      clear hKK KK
      try simp only [Act.put, List.setIfInBounds_toArray, List.set_cons_zero, List.set_cons_succ]
      obtain ⟨v2, u2, hr2, hbe2, hg2⟩ := HBE1.out.app59 q x' R1 HX20.out HIL.out 27
      have HBE2 : Hid (Bx ndV 22 59 w u2 G v2 (l' ++ [x'])) := hbe2
      have HNK2 : Hid (∀ z ∈ l' ++ [x'], NK u2 z) := fun z hz => (HNK1.out z hz).grown HBE1.out hg2
      refine wpAnyH_ready (rs := [14]) (by kernel_rfl) (by simp) ?_
      refine consL rfl (fun KK hKK => ?_) AllReadyH.nil
      refine step_exec (by rfl) v2 (w' := u2) (exec_call (v1 := v) (v2 := .slice (some ⟨q, 0, none⟩) 1 1) _ _ 27 rfl rfl rfl hr2) ?_
      refine hKK.out _ _ (HQ.out _ HBE2.out.below) (fun hHeld => ?_)
      clear hKK KK hr2 hbe2 hg2 R1 hbu1
      try simp only [Act.put, List.setIfInBounds_toArray, List.set_cons_zero, List.set_cons_succ]
      refine takeL (i := 15) (v := ?_) rfl (by kernel_rfl) (by kernel_rfl) (by kernel_rfl) (fun _ _ _ h => h) (Or.inl ⟨by rfl, ?_⟩) hHeld ?_
      rotate_left
      · rintro w' ⟨r0, c21⟩; go_simp; rfl
      try simp only [Act.put, List.setIfInBounds_toArray, List.set_cons_zero, List.set_cons_succ]
      refine wpAnyH_done (by kernel_rfl) ?_ _
      clear hHeld
      go_wp2
      go_roundg (n - (i + 1))
      case measure => omega
      case rel => exact ⟨i + 1, v2, _, rfl, by omega, rfl, by go_num, HBE2, HTK, HNK2⟩
    · have hlti : ¬ (i : Int) < (n : Int) := by omega
      have HKZ : Hid (l'.map key = l.map key) := hid (by
        have := HKE.out
        rw [List.take_of_length_le (by rw [HN.out]; omega)] at this
        exact this)
      go_wp2
      go_ret
      exact ⟨v, l', rfl, by rw [HG.out]; exact HBE.out, HKZ.out, fun x hx => (HNK.out x hx).nd⟩
end Go.Proofs.YtjgjeedablgmeaaDoor
