import Derived.Test.YtcicoeneemnbiaaGreatDoorMw21
namespace Go.Proofs.YtcicoeneemnbiaaGreatDoor
open Go.RowKit
variable [Inhabited En]
set_option linter.unusedVariables false
set_option linter.unusedSectionVars false
set_option linter.unusedSimpArgs false
theorem eqFields_true {P : Program} (d : Nat) (xs : Array Value) : ∀ (fs : List Field) (w : World), (∀ f ∈ fs, ∃ v, (∀ w : World, (part f.type xs f.offset).run P w = .ok v w) ∧ ∀ w : World, (Op.equalIn d f.type v v).run P w = .ok true w) → (Op.eqFields d xs xs fs).run P w = .ok true w
  | [], w, _ => by simp [Op.eqFields]
  | f :: fs, w, h => by
    obtain ⟨v, h1, h2⟩ := h f (by simp)
    have ih := eqFields_true d xs fs w (fun g hg => h g (by simp [hg]))
    simp only [Op.eqFields]
    split
    · simp only [Sem.run_bind, h1, h2, Result.andThen_ok]
      simpa using ih
    · exact ih
theorem fields32 : (Tryz.prog.fieldsOf 32).toList.map (fun f => (f.type, f.offset)) = [(9, 0), (28, 1), (30, 2), (3, 22), (3, 23)] := by kernel_rfl
theorem under32 : Tryz.prog.underlying 32 = some (.struct (Tryz.prog.fieldsOf 32)) := by kernel_rfl
theorem held32 : Tryz.prog.stoodInHeld 32 = false := by kernel_rfl
theorem und28 : Tryz.prog.underlying 28 = some (.int .i64) := by kernel_rfl
set_option maxRecDepth 20000 in
theorem part32 (S : ByteArray) (m : Int) (id : Str) (z t : Int) (h : id.length = 20) (w : World) :
    (part 9 (Value.string S :: .int .i64 m :: (bv id ++ [.int .i64 z, .int .i64 t])).toArray 0).run Tryz.prog w = .ok (.string S) w ∧ (part 28 (Value.string S :: .int .i64 m :: (bv id ++ [.int .i64 z, .int .i64 t])).toArray 1).run Tryz.prog w = .ok (.int .i64 m) w ∧
      (part 30 (Value.string S :: .int .i64 m :: (bv id ++ [.int .i64 z, .int .i64 t])).toArray 2).run Tryz.prog w = .ok (.agg (bv id).toArray) w ∧ (part 3 (Value.string S :: .int .i64 m :: (bv id ++ [.int .i64 z, .int .i64 t])).toArray 22).run Tryz.prog w = .ok (.int .i64 z) w ∧
      (part 3 (Value.string S :: .int .i64 m :: (bv id ++ [.int .i64 z, .int .i64 t])).toArray 23).run Tryz.prog w = .ok (.int .i64 t) w := by
  obtain ⟨a0, a1, a2, a3, a4, a5, a6, a7, a8, a9, a10, a11, a12, a13, a14, a15, a16, a17, a18, a19, rfl⟩ := list20Y id h
  exact ⟨by kernel_rfl, by kernel_rfl, by kernel_rfl, by kernel_rfl, by kernel_rfl⟩
theorem eq30s (id : Str) (h : id.length = 20) (w : World) : (Op.equalIn 9999 30 (.agg (bv id).toArray) (.agg (bv id).toArray)).run Tryz.prog w = .ok true w := by
  obtain ⟨i5, hi, -⟩ := info_parts Tryz.info5
  rw [← row_bv, show (9999 : Nat) = 9998 + 1 from rfl, run_equalIn_array w 9998 _ _ Tryz.underlying30 hi, cells5]
  exact eqItems_same 9997 5 plain5 Tryz.underlying5 (nums id) _ w (fun j hj => by rw [nums_len, h]; simpa using hj)
theorem und3n : Tryz.prog.underlying 3 = some (.int .i64) := by kernel_rfl
theorem eqY (x : Ey) (h : x.id.length = 20) (w : World) : (Op.equalIn 10000 32 (.agg (encY x).toArray) (.agg (encY x).toArray)).run Tryz.prog w = .ok true w := by
  rw [show (10000 : Nat) = 9999 + 1 from rfl, run_equalIn_struct w 9999 32 _ _ under32 held32]
  refine eqFields_true 9999 _ _ w (fun f hf => ?_)
  have hm : (f.type, f.offset) ∈ (Tryz.prog.fieldsOf 32).toList.map (fun f => (f.type, f.offset)) := List.mem_map.2 ⟨f, hf, rfl⟩
  rw [fields32] at hm
  simp only [List.mem_cons, List.not_mem_nil, or_false, Prod.mk.injEq] at hm
  rcases hm with ⟨e1, e2⟩ | ⟨e1, e2⟩ | ⟨e1, e2⟩ | ⟨e1, e2⟩ | ⟨e1, e2⟩
  · rw [e1, e2]
    exact ⟨_, fun w => (part32 ⟨x.path.toArray⟩ x.mode x.id x.size x.stage h w).1, fun w => by rw [show (9999 : Nat) = 9998 + 1 from rfl, run_equalIn_string w 9998 9 _ _ Tryz.underlying9]; simp⟩
  · rw [e1, e2]
    exact ⟨_, fun w => (part32 ⟨x.path.toArray⟩ x.mode x.id x.size x.stage h w).2.1, fun w => by rw [show (9999 : Nat) = 9998 + 1 from rfl, run_equalIn_int w 9998 28 .i64 .i64 x.mode x.mode und28]; simp⟩
  · rw [e1, e2]
    exact ⟨_, fun w => (part32 ⟨x.path.toArray⟩ x.mode x.id x.size x.stage h w).2.2.1, fun w => eq30s x.id h w⟩
  · rw [e1, e2]
    exact ⟨_, fun w => (part32 ⟨x.path.toArray⟩ x.mode x.id x.size x.stage h w).2.2.2.1, fun w => by rw [show (9999 : Nat) = 9998 + 1 from rfl, run_equalIn_int w 9998 3 .i64 .i64 x.size x.size und3n]; simp⟩
  · rw [e1, e2]
    exact ⟨_, fun w => (part32 ⟨x.path.toArray⟩ x.mode x.id x.size x.stage h w).2.2.2.2, fun w => by rw [show (9999 : Nat) = 9998 + 1 from rfl, run_equalIn_int w 9998 3 .i64 .i64 x.stage x.stage und3n]; simp⟩
theorem idx_len : ∀ (l : List Ey), (∀ x ∈ l, okP x.path) → WY l → (idxS l).length ≤ 12 + l.length * 170 := by
  intro l h1 h2
  unfold idxS
  rw [List.length_append, show (hdB l.length).length = 12 by unfold hdB; simp [nb_len]]
  have : (l.flatMap entB).length ≤ l.length * 170 := by
    induction l with
    | nil => simp
    | cons x l ih =>
      have ih2 := ih (fun y hy => h1 y (by simp [hy])) (fun y hy => h2 y (by simp [hy]))
      have h3 := entB_len x (h2 x (by simp))
      have h4 := entLen_le x.path.length
      have h5 := (h1 x (by simp)).1
      rw [List.flatMap_cons, List.length_append, List.length_cons, Nat.add_mul]
      omega
  omega
structure Q2r (b o b2 o2 : Nat) (x : Ey) (W : World) : Prop where
  r1 : W.rangeAt b o (encY x)
  r2 : W.rangeAt b2 o2 (encY x)
theorem drewN_below (w : World) (n : Nat) : Below w.heap.size w (w.drewN n) := below_drewH (Below.refl _ _) n
theorem sameB {w : World} (a a' : Option Addr) (c c' : Nat) (s : Str) (h : PB w a c s) (h' : PB w a' c' s) (hl : s.length ≤ 300000) : Calls Tryz.prog 7 #[.slice a s.length c, .slice a' s.length c'] w fun e w' => e = .returned (.bool true) ∧ Below w.heap.size w w' := by
  have := same_any a a' c c' (nums s) w (by rw [nums_len]; omega) (fun h0 => by
    rw [nums_len] at h0
    obtain ⟨b, off, e1, _⟩ := h.at_ h0
    subst e1
    exact ⟨b, off, rfl, pb_at h⟩) (fun h0 => by
    rw [nums_len] at h0
    obtain ⟨b, off, e1, _⟩ := h'.at_ h0
    subst e1
    exact ⟨b, off, rfl, pb_at h'⟩)
  rw [nums_len] at this
  exact this.mono (by rintro e w' ⟨rfl, n, rfl⟩; exact ⟨rfl, drewN_below w n⟩)
theorem pb_none (w : World) : PB w none 0 [] := ⟨Nat.le_refl _, (fun h => by cases h), fun _ => rfl⟩
theorem walk_long (a : Option Addr) (ca n : Nat) (b : Option Addr) (cb m : Nat) (w : World) (h : 60 < n ∨ 8000 < m) : Calls Tryz.prog 3 #[.slice a n ca, .slice b m cb] w fun e w' => e = .returned (.bool true) ∧ Below w.heap.size w w' := by
  by_cases h1 : 60 < n
  · have h1i : (60 : Int) < (n : Int) := by omega
    clear h
    go_enter Tryz.func3, Tryz.ntmps3
    go_wp2
    go_ret
    exact ⟨rfl, Below.refl _ _⟩
  · have h1i : ¬ (60 : Int) < (n : Int) := by omega
    have h2i : (8000 : Int) < (m : Int) := by omega
    clear h
    go_enter Tryz.func3, Tryz.ntmps3
    go_wp2
    go_ret
    exact ⟨rfl, Below.refl _ _⟩
set_option maxRecDepth 20000 in
set_option maxHeartbeats 8000000 in
theorem walk_short {w : World} (a : Option Addr) (ca : Nat) (l : List Ey) (ab : Option Addr) (cb : Nat) (s : Str) (hP : PY w a ca l) (hw : WY l) (hl : l.length ≤ 60) (hPB : PB w ab cb s) (hs : s.length ≤ 8000) (hg : Hg w) :
    Calls Tryz.prog 3 #[.slice a l.length ca, .slice ab s.length cb] w fun e w' => e = .returned (.bool true) ∧ Below w.heap.size w w' := by
  obtain ⟨n, HN⟩ : ∃ n, Hid (l.length = n) := ⟨_, rfl⟩
  obtain ⟨m, HMm⟩ : ∃ n, Hid (s.length = n) := ⟨_, rfl⟩
  obtain ⟨G, HG⟩ : ∃ g, Hid (w.heap.size = g) := ⟨_, rfl⟩
  have hn : n ≤ 60 := by rw [← HN.out]; exact hl
  have hm : m ≤ 8000 := by rw [← HMm.out]; exact hs
  have hni : ¬ (60 : Int) < (n : Int) := by omega
  have hmi : ¬ (8000 : Int) < (m : Int) := by omega
  have hG0 : 0 < G := by rw [← HG.out]; exact hg.lt
  have HPW : Hid (∀ W, Below G w W → PY W a ca l) := fun W hW => hP.below (by rw [HG.out]; exact hW)
  have HPBW : Hid (∀ W, Below G w W → PB W ab cb s) := fun W hW => hPB.below (by rw [HG.out]; exact hW)
  have HGW : Hid (∀ W, Below G w W → Hg W) := fun W hW => hg.below hW hG0
  have HFA : Hid (0 < n → ∃ b off, a = some ⟨b, off, none⟩) := fun h0 => by
    obtain ⟨b, off, e1, _⟩ := hP.at_ (by rw [HN.out]; exact h0)
    exact ⟨b, off, e1⟩
  have HWY : Hid (WY l) := hw
  have HWE : Hid (∀ x ∈ l, (encY x).length = 24) := fun x hx => encY_len x (hw x hx)
  have HP : Hid (PY w a ca l) := hP
  have HB0 : Hid (BY 32 w w G (.slice none 0 0) []) := hid (bx_nil 32 w G (by rw [HG.out]; exact Nat.le_refl _))
  rw [HN.out, HMm.out, HG.out]
  clear hP hw hl hPB hs hg
  go_enter Tryz.func3, Tryz.ntmps3
  go_wp2_with (first
    | (at_builtin; refine wpList_bx_sl (enc := encY) (d := dY) rfl _ _ 22 32 Tryz.underlying22 info32z rfl (by decide) (by decide) encY_one rfl G _ _ rfl HB0.out a ca l (by rw [HN.out]; rfl) HP.out HWE.out (by rw [HN.out]; simp only [List.length_nil]; omega) ?_; intro v1 w1 hb1 hg1; have HBE1 : Hid (BY 32 w w1 G v1 ([] ++ l)) := hb1; clear hb1 hg1; refine Hid.out ?_)
    | fail)
  refine hid ?_
  rw [List.nil_append] at HBE1
  obtain ⟨a1, c1, hv1, hp1, _⟩ := HBE1.out.px (d := dY) HWE.out
  subst hv1
  have HP1 := hid hp1
  have HFA1 : Hid (0 < n → ∃ b off, a1 = some ⟨b, off, none⟩) := hid (fun h0 => by
    obtain ⟨b, off, e1, _⟩ := hp1.at_ (by rw [HN.out]; exact h0)
    exact ⟨b, off, e1⟩)
  have HBB1 : Hid (Below G w w1) := hid HBE1.out.below
  have hG1 : G ≤ w1.heap.size := HBE1.out.le
  have C4 := hid (write_any a1 c1 l (inOrder_any clash_all a1 c1 l hp1 HWY.out (by rw [HN.out]; omega)) (by rw [HN.out]; omega) HWY.out)
  rw [HN.out] at C4 ⊢
  clear hp1
  go_wp2_with fail
  refine C4.out.mono ?_
  rintro e w2 ⟨hb2, hcase⟩
  have HCASE := hid hcase
  have HB2 : Hid (Below G w w2) := hid (HBB1.out.trans (hb2.mono hG1))
  have HP2 : Hid (∀ W, Below w2.heap.size w2 W → PY W a1 c1 l) := hid (fun W hW => (HP1.out.below hb2).below hW)
  have hG2 : G ≤ w2.heap.size := by rw [← HG.out]; exact HB2.out.size
  obtain ⟨vx, ve, X, ax, cx, sm, he, HX⟩ : ∃ vx ve X ax cx sm, e = .returned (.tuple #[vx, ve]) ∧ Hid (vx = .slice ax X.length cx ∧ PB w2 ax cx X ∧ X.length ≤ 20000 ∧ ((codeY l ≠ 0 ∧ X = [] ∧ ve = .iface 38 (.int .i64 (codeY l))) ∨ (codeY l = 0 ∧ ve = .nilIface ∧ nums sm = sha (nums (idxS (srtY l))) ∧ X = idxS (srtY l) ++ sm))) := by
    rcases hcase with ⟨h0, rfl⟩ | ⟨h0, a', cap', S, rfl, hpb, sm, h1, h2⟩
    · exact ⟨_, _, [], none, 0, [], rfl, hid ⟨rfl, pb_none w2, by simp, .inl ⟨h0, rfl, rfl⟩⟩⟩
    · refine ⟨_, _, S, a', cap', sm, rfl, hid ⟨rfl, hpb, ?_, .inr ⟨h0, rfl, h1, h2⟩⟩⟩
      rw [h2, List.length_append, show sm.length = 20 by have := congrArg List.length h1; rwa [nums_len, sha_len] at this]
      have := idx_len (srtY l) (fun x hx => (code_ok h0).1 x ((srtY_perm l).mem_iff.1 hx)) (fun x hx => HWY.out x ((srtY_perm l).mem_iff.1 hx))
      rw [(srtY_perm l).length_eq, HN.out] at this
      omega
  subst he
  clear hcase hb2
  obtain ⟨hvx, hpbx, hxl, hxc⟩ := HX.out
  subst hvx
  have HXC := hid hxc
  have HPX : Hid (∀ W, Below w2.heap.size w2 W → PB W ax cx X) := hid (fun W hW => hpbx.below hW)
  obtain ⟨q, HQ⟩ : ∃ q, Hid (X.length = q) := ⟨_, rfl⟩
  have hq : q ≤ 20000 := by rw [← HQ.out]; exact hxl
  rw [HQ.out]
  clear hpbx hxl hxc HX HCASE C4
  go_wp2_with fail
  go_loopg [8] n (fun gg iv wr => ∃ i : Nat, iv = .int .i64 i ∧ i ≤ n ∧ gg = n - i ∧ Hid (Below w2.heap.size w2 wr))
  case atStart => exact ⟨0, rfl, Nat.zero_le _, rfl, hid (Below.refl _ _)⟩
  case round =>
    obtain ⟨i, rfl, hi, hk, HB⟩ := hrel
    by_cases hlt : i < n
    · have hlti : (i : Int) < (n : Int) := by omega
      obtain ⟨b, off, hae⟩ := HFA1.out (by omega)
      obtain ⟨b2, off2, hae2⟩ := HFA.out (by omega)
      subst hae
      subst hae2
      have hil : i < l.length := by rw [HN.out]; exact hlt
      obtain ⟨x, HX⟩ : ∃ x, Hid (l.getD i dY = x) := ⟨_, rfl⟩
      have HW : Hid (x.id.length = 20) := hid (by rw [← HX.out]; exact HWY.out _ (getD_mem l i dY hil))
      have HBd : Hid (Below w2.heap.size w2 wr.drew) := hid (Below.drewR HB.out)
      have hS : Q2r b (off + i * 24) b2 (off2 + i * 24) x wr.drew := ⟨by rw [← HX.out]; exact (HP2.out _ HBd.out).row i hil, by rw [← HX.out]; exact (HPW.out _ (HB2.out.trans (HBd.out.mono hG2))).row i hil⟩
      have hi32 : (Tryz.prog.info? 32).map (·.size) = some (encY x).length := by rw [encY_len _ HW.out]; exact info32
      have heq : ∀ W : World, (Op.equalIn 10000 32 (.agg (encY x).toArray) (.agg (encY x).toArray)).run Tryz.prog W = .ok true W := fun W => eqY x HW.out W
      clear hil
      go_wp2_with fail
      refine wp_region_held_drew (S := Q2r b (off + i * 24) b2 (off2 + i * 24) x) (by kernel_rfl) hS (fun hHeld => ?_)
      generalize wr.drew = wd at hHeld HBd ⊢
      clear hS
      refine takeL (i := 0) (v := ?_) rfl (by kernel_rfl) (by kernel_rfl) (by kernel_rfl) (fun _ _ _ h => h) (Or.inl ⟨by rfl, ?_⟩) hHeld ?_
      rotate_left
      · rintro w' ⟨r1, r2⟩; go_simp; rfl
      try simp only [Act.put, List.setIfInBounds_toArray, List.set_cons_zero, List.set_cons_succ]
      refine takeL (i := 1) (v := ?_) rfl (by kernel_rfl) (by kernel_rfl) (by kernel_rfl) (fun _ _ _ h => h) (Or.inl ⟨by rfl, ?_⟩) hHeld ?_
      rotate_left
      · rintro w' ⟨r1, r2⟩; go_simp; rfl
      try simp only [Act.put, List.setIfInBounds_toArray, List.set_cons_zero, List.set_cons_succ]
      refine takeL (i := 2) (v := ?_) rfl (by kernel_rfl) (by kernel_rfl) (by kernel_rfl) (fun _ _ _ h => h) (Or.inl ⟨by rfl, ?_⟩) hHeld ?_
      rotate_left
      · rintro w' ⟨r1, r2⟩; go_simp; rfl
      try simp only [Act.put, List.setIfInBounds_toArray, List.set_cons_zero, List.set_cons_succ]
      refine takeL (i := 3) (v := .agg (encY x).toArray) rfl (by kernel_rfl) (by kernel_rfl) (by kernel_rfl) (fun _ _ _ h => h) (yieldsIf_load_mid (by rfl) 32 _ rfl b (off + i * 24) (by rfl) (encY x) _ (fun w' h => h.r1) Tryz.underlying32 rfl hi32) hHeld ?_
      try simp only [Act.put, List.setIfInBounds_toArray, List.set_cons_zero, List.set_cons_succ]
      refine takeL (i := 4) (v := ?_) rfl (by kernel_rfl) (by kernel_rfl) (by kernel_rfl) (fun _ _ _ h => h) (Or.inl ⟨by rfl, ?_⟩) hHeld ?_
      rotate_left
      · rintro w' ⟨r1, r2⟩; go_simp; rfl
      try simp only [Act.put, List.setIfInBounds_toArray, List.set_cons_zero, List.set_cons_succ]
      refine takeL (i := 5) (v := ?_) rfl (by kernel_rfl) (by kernel_rfl) (by kernel_rfl) (fun _ _ _ h => h) (Or.inl ⟨by rfl, ?_⟩) hHeld ?_
      rotate_left
      · rintro w' ⟨r1, r2⟩; go_simp; rfl
      try simp only [Act.put, List.setIfInBounds_toArray, List.set_cons_zero, List.set_cons_succ]
      refine takeL (i := 6) (v := ?_) rfl (by kernel_rfl) (by kernel_rfl) (by kernel_rfl) (fun _ _ _ h => h) (Or.inl ⟨by rfl, ?_⟩) hHeld ?_
      rotate_left
      · rintro w' ⟨r1, r2⟩; go_simp; rfl
      try simp only [Act.put, List.setIfInBounds_toArray, List.set_cons_zero, List.set_cons_succ]
      refine takeL (i := 7) (v := .agg (encY x).toArray) rfl (by kernel_rfl) (by kernel_rfl) (by kernel_rfl) (fun _ _ _ h => h) (yieldsIf_load_mid (by rfl) 32 _ rfl b2 (off2 + i * 24) (by rfl) (encY x) _ (fun w' h => h.r2) Tryz.underlying32 rfl hi32) hHeld ?_
      try simp only [Act.put, List.setIfInBounds_toArray, List.set_cons_zero, List.set_cons_succ]
      refine takeL (i := 8) (v := .bool false) rfl (by kernel_rfl) (by kernel_rfl) (by kernel_rfl) (fun _ _ _ h => h) (Or.inl ⟨by rfl, ?_⟩) hHeld ?_
      · rintro w' ⟨r1, r2⟩; go_simp; try rfl
      try simp only [Act.put, List.setIfInBounds_toArray, List.set_cons_zero, List.set_cons_succ]
      refine wpAnyH_done (by kernel_rfl) ?_ _
      clear hHeld
      go_wp2
      go_roundg (n - (i + 1))
      case measure => omega
      case rel => exact ⟨i + 1, by go_num, by omega, rfl, HBd⟩
    · have hlti : ¬ (i : Int) < (n : Int) := by omega
      have HBr : Hid (Below G w wr) := hid (HB2.out.trans (HB.out.mono hG2))
      have C5 : Hid (Calls Tryz.prog 5 #[.slice a n ca] wr (PostTh l wr)) := hid (by rw [← HN.out]; exact theirs_any a ca l (HPW.out wr HBr.out) HWY.out (by rw [HN.out]; omega))
      go_wp2_with fail
      refine C5.out.mono ?_
      rintro e w3 ⟨v3, rfl, hby⟩
      obtain ⟨a3, c3, hv3, hp3, _⟩ := hby.px (d := dY) HWE.out
      subst hv3
      have HB3 : Hid (Below w2.heap.size w2 w3) := hid (HB.out.trans (hby.below.mono HB.out.size))
      have C6 := hid (refWrite_any a3 c3 l hp3 HWY.out (by rw [HN.out]; omega))
      rw [HN.out] at C6 ⊢
      clear hby hp3
      go_wp2_with fail
      refine C6.out.mono ?_
      rintro e w4 ⟨hb4, hcase⟩
      have HB4 : Hid (Below w2.heap.size w2 w4) := hid (HB3.out.trans (hb4.mono HB3.out.size))
      have HBG4 : Hid (Below G w w4) := hid (HB2.out.trans (HB4.out.mono hG2))
      obtain ⟨c, HC⟩ : ∃ c, Hid (codeY l = c) := ⟨_, rfl⟩
      obtain ⟨ay, cy, he, HY⟩ : ∃ ay cy, e = .returned (.tuple #[.slice ay q cy, .int .i64 c]) ∧ Hid (PB w4 ay cy X) := by
        rcases hcase with ⟨h0, rfl⟩ | ⟨h0, a', cap', S, rfl, hpb, sm', h1, h2⟩
        · rcases HXC.out with ⟨_, hX, _⟩ | ⟨h0', _⟩
          · refine ⟨none, 0, by rw [HC.out, ← HQ.out, hX]; rfl, hid (by rw [hX]; exact pb_none w4)⟩
          · exact absurd h0' h0
        · rcases HXC.out with ⟨h0', _⟩ | ⟨_, _, h3, h4⟩
          · exact absurd h0 h0'
          · have e : S = X := by rw [h2, h4, nums_inj (h1.trans h3.symm)]
            subst e
            exact ⟨a', cap', by rw [← HC.out, h0, HQ.out], hid hpb⟩
      subst he
      have C7 : Hid (Calls Tryz.prog 7 #[.slice ax q cx, .slice ay q cy] w4 fun e w' => e = .returned (.bool true) ∧ Below w4.heap.size w4 w') := hid (by
        have := sameB ax ay cx cy X (HPX.out w4 HB4.out) HY.out (by rw [HQ.out]; omega)
        rw [HQ.out] at this
        exact this)
      clear hcase hb4 C5 C6
      go_wp2_with fail
      refine C7.out.mono ?_
      rintro e w5 ⟨rfl, hb5⟩
      have HB5 : Hid (Below w2.heap.size w2 w5) := hid (HB4.out.trans (hb5.mono HB4.out.size))
      have HBG5 : Hid (Below G w w5) := hid (HB2.out.trans (HB5.out.mono hG2))
      have C8 : Hid (Calls Tryz.prog 8 #[ve] w5 fun e w' => e = .returned (.int .i64 c) ∧ Below w5.heap.size w5 w') := hid (by
        rcases HXC.out with ⟨h0', _, rfl⟩ | ⟨h0', rfl, _⟩
        · rw [HC.out]; exact tell_errno c w5 (HGW.out w5 HBG5.out)
        · rw [← HC.out, h0']; exact tell_nil w5)
      clear hb5
      go_wp2_with fail
      refine C8.out.mono ?_
      rintro e w6 ⟨rfl, hb6⟩
      have HB6 : Hid (Below w2.heap.size w2 w6) := hid (HB5.out.trans (hb6.mono HB5.out.size))
      have HBG6 : Hid (Below G w w6) := hid (HB2.out.trans (HB6.out.mono hG2))
      have hcc : (c != c) = false := by simp
      have C9 : Hid (Calls Tryz.prog 9 #[.slice ab m cb] w6 fun e w' => e = .returned (.bool true) ∧ Below w6.heap.size w6 w') := hid (by
        rw [← HMm.out]; exact reads_any ab cb s (HPBW.out w6 HBG6.out) (by rw [HMm.out]; omega) (HGW.out w6 HBG6.out))
      clear hb6
      go_wp2_with fail
      refine C9.out.mono ?_
      rintro e w7 ⟨rfl, hb7⟩
      have HB7 : Hid (Below w2.heap.size w2 w7) := hid (HB6.out.trans (hb7.mono HB6.out.size))
      have HBG7 : Hid (Below G w w7) := hid (HB2.out.trans (HB7.out.mono hG2))
      clear hb7
      by_cases hc0 : c = 0
      · have hcb : (c != 0) = false := by simp [hc0]
        have C9b : Hid (Calls Tryz.prog 9 #[.slice ax q cx] w7 fun e w' => e = .returned (.bool true) ∧ Below w7.heap.size w7 w') := hid (by
          rw [← HQ.out]; exact reads_any ax cx X (HPX.out w7 HB7.out) (by rw [HQ.out]; omega) (HGW.out w7 HBG7.out))
        clear hc0
        go_wp2_with fail
        refine C9b.out.mono ?_
        rintro e w8 ⟨rfl, hb8⟩
        have HBG8 : Hid (Below G w w8) := hid (HBG7.out.trans (hb8.mono (by rw [← HG.out]; exact HBG7.out.size)))
        clear hb8
        go_wp2
        go_ret
        exact ⟨rfl, HBG8.out⟩
      · have hcb : (c != 0) = true := by simp [hc0]
        have hq0 : q = 0 := by
          rcases HXC.out with ⟨_, hX, _⟩ | ⟨h0', _⟩
          · rw [← HQ.out, hX]; rfl
          · exact absurd (HC.out ▸ h0') hc0
        subst hq0
        clear hc0
        go_wp2
        go_ret
        exact ⟨rfl, HBG7.out⟩
end Go.Proofs.YtcicoeneemnbiaaGreatDoor
