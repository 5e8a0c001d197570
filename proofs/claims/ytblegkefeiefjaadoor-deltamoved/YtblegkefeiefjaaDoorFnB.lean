/- The finder's 'key' and 'edge'. -/
import Derived.Test.YtblegkefeiefjaaDoorFnA
namespace Go.Proofs.YtblegkefeiefjaaDoor
open Go.RowKit Go.Maps
set_option linter.unusedVariables false
set_option linter.unusedSimpArgs false

theorem u32_join (s x : Nat) (hs : s < 16777216) (hx : x < 256) : bits .or .u32 ((s : Int) * 256) (x : Int) = ((s * 256 + x : Nat) : Int) := by
  have e : (s : Int) * 256 = ((s * 256 : Nat) : Int) := by omega
  rw [e, u32_or _ _ (by omega) (by omega) (by omega) (by omega)]
  rw [Int.toNat_natCast, Int.toNat_natCast, show (256 : Nat) = 2 ^ 8 from rfl, nat_join 8 (s * 2 ^ 8) x (Nat.mul_mod_left _ _) hx]
set_option maxHeartbeats 400000 in
theorem key_any (s x : Nat) (hs : s < 16777216) (hx : x < 256) (w : World) : Calls Tryd.prog 44 #[.int .i32 s, .int .u8 x] w fun e w' => e = .returned (.int .u32 ((s * 256 + x : Nat) : Int)) ∧ w' = w := by
  have h := u32_join s x hs hx
  go_enter Tryd.func44, Tryd.ntmps44
  go_wp2_with fail
  go_ret
  exact ⟨by show Ending.returned (.int .u32 ((s : Int) * 256 + x)) = _; rw [show (s : Int) * 256 + x = ((s * 256 + x : Nat) : Int) by omega], rfl⟩
theorem law111 : Keyed Tryd.prog 111 := int_keyed Tryd.underlying111
theorem zero21 (w : World) : (zeroValue 21).run Tryd.prog w = .ok (.int .i32 0) w := by kernel_rfl
theorem key_of (s x : Nat) (hs : s < 16777216) (hx : x < 256) : keyOf Tryd.prog 111 (.int .u32 ((s * 256 + x : Nat) : Int)) = some (kyL s x) :=
  keyOf_int_mk Tryd.underlying111 (WalkArith.wf_u32 ⟨by omega, by omega⟩)
/-- A step of a region that draws: a call of a Go function, by its contract. -/
theorem step_callv {P : Program} {ops : Array Oper} {o : Oper} {a : Act} {w : World} {K : Act → World → Prop} {Q : Exit → Act → World → Prop} {E : Prop} (hg : o.guard = none) (f : FuncId) (args : List Operand) (ts : Array TypeId) (vs : List Value) (R : Ending → World → Prop)
    (ho : o.op = .call { callee := .value (.func f), args := args.toArray, argTypes := ts }) (hx : args.map a.eval = vs) (hent : ∀ w : World, (callFunc f vs.toArray).run P w = .ok (.enter f vs.toArray) w)
    (hc : Calls P f vs.toArray w R) (h : ∀ e w', R e w' → ∃ r, e = .returned r ∧ K (a.put o.dst r) w') :
    if Region.wanted o (yielded ops a.tmps) = true then Oper.wp P o a w K Q else E := by
  have hw : Region.wanted o (yielded ops a.tmps) = true := by simp [Region.wanted, hg]
  rw [if_pos hw]
  unfold Oper.wp
  simp only [execOp, ho, resolve, invoke, go_sem, List.map_toArray, hx, hent]
  simp [go_sem, hent, Oper.upon_enter]
  refine hc.mono ?_
  intro e w' hr
  obtain ⟨r, rfl, hk⟩ := h e w' hr
  exact hk
theorem step_exec {P : Program} {ops : Array Oper} {o : Oper} {a : Act} {w w' : World} {K : Act → World → Prop} {Q : Exit → Act → World → Prop} {E : Prop} (hg : o.guard = none) (v : Value) (hr : (execOp a.eval o).run P w = .ok (.value v) w') (h : K (a.put o.dst v) w') :
    if Region.wanted o (yielded ops a.tmps) = true then Oper.wp P o a w K Q else E := by
  have hw : Region.wanted o (yielded ops a.tmps) = true := by simp [Region.wanted, hg]
  rw [if_pos hw]
  unfold Oper.wp
  rw [hr]
  exact h
theorem takeL {P : Program} {md : Region.Mode} {Q : Exit → Act → World → Prop} {S : World → Prop} {l : List Oper} {i : Nat} {oi : Oper} {v : Value} {fuel : Nat} {listed : Array Bool} {a : Act} {w : World} (hi : l[i]? = some oi)
    (hs : Region.noSelect l.toArray = true) (hf : Region.free md l.toArray listed i = true) (hr : (Region.ready md l.toArray listed).contains i = true)
    (hQ : ∀ c a w, Q (.panic c) (a.put oi.dst v) w → Q (.panic c) a w) (hy : YieldsIf P l.toArray S oi v a) (hS : S w)
    (h : wpAnyH P md l.toArray Q S fuel (listed.setIfInBounds i true) (a.put oi.dst v) w) : wpAnyH P md l.toArray Q S (fuel + 1) listed a w :=
  wpAnyH_take (by rw [List.getElem?_toArray]; exact hi) hs hf hr hQ hy hS h
theorem consL {P : Program} {md : Region.Mode} {Q : Exit → Act → World → Prop} {S : World → Prop} {l : List Oper} {fuel : Nat} {listed : Array Bool} {a : Act} {w : World} {i : Nat} {o : Oper} {rs : List Nat} (ho : l[i]? = some o)
    (h : ∀ K' : Act → World → Prop, Shut (∀ a w, S w → (S w → wpAnyH P md l.toArray Q S fuel (listed.setIfInBounds i true) a w) → K' a w) → if Region.wanted o (yielded l.toArray a.tmps) = true then Oper.wp P o a w K' Q else K' (a.put o.dst undef) w)
    (hs : AllReadyH P md l.toArray Q S fuel listed a w rs) : AllReadyH P md l.toArray Q S fuel listed a w (i :: rs) := AllReadyH.cons (by rw [List.getElem?_toArray]; exact ho) h hs
theorem enter44 (v1 v2 : Value) (w : World) : (callFunc 44 #[v1, v2]).run Tryd.prog w = .ok (.enter 44 #[v1, v2]) w := by kernel_rfl
set_option maxRecDepth 10000 in
set_option maxHeartbeats 1000000 in
/-- Which edge leads from a state by a byte. -/
theorem edge_any {B g : Nat} {F : Fn} (s x : Nat) (hs : s < 16777216) (hx : x < 256) (w : World) (hR : Rep B w g F) : Calls Tryd.prog 40 #[.pointer (some ⟨g, 0, none⟩), .int .i32 s, .int .u8 x] w fun e w' => e = .returned (.int .i32 (F.m s x)) ∧ ∃ q, w' = w.drewN q := by
  have c2 := hR.c2
  obtain ⟨D, hD, hat⟩ := hR.mp
  obtain ⟨ky, HKY⟩ : ∃ ky, Hid (ky = ((s * 256 + x : Nat) : Int)) := ⟨_, rfl⟩
  have HK : Hid _ := fun w' => key_any s x hs hx w'
  have hlk : ∀ w' : World, w'.heap = w.heap → (Instr.lookup 99 (.map (some F.mb)) (.int .u32 ky) false).run Tryd.prog w' = .ok (.int .i32 (F.m s x)) w' := fun w' hw' => by
    have hD' : w'.ownsMap Tryd.prog 111 (plainElem Tryd.prog 21) F.mb F.mn D := by
      obtain ⟨es, ck, e1, e2⟩ := hD
      exact ⟨es, ck, by rw [hw']; exact e1, e2⟩
    obtain ⟨c, h1, h2, _⟩ := hD'.lookup_int law111 Tryd.underlying99 Tryd.underlying21 (zero21 _) (key_of s x hs hx)
    rw [hat s x hs hx] at h2
    cases h2
    rw [HKY.out]
    exact h1
  rw [← HKY.out] at HK
  have hl1 := hlk w.drew rfl
  clear hlk hat hD
  go_enter Tryd.func40, Tryd.ntmps40
  go_wp2_with fail
  refine wp_region_held_drew (S := fun w' => w'.cell? ⟨g, 2, none⟩ = some (.map (some F.mb))) (by kernel_rfl) (by exact c2) (fun hHeld => ?_)
  refine takeL (i := 0) (v := ?_) rfl (by kernel_rfl) (by kernel_rfl) (by kernel_rfl) (fun _ _ _ h => h) (Or.inl ⟨by rfl, ?_⟩) hHeld ?_
  rotate_left
  · rintro w' s0; go_simp; rfl
  try simp only [Act.put, List.setIfInBounds_toArray, List.set_cons_zero, List.set_cons_succ]
  refine takeL (i := 1) (v := ?_) rfl (by kernel_rfl) (by kernel_rfl) (by kernel_rfl) (fun _ _ _ h => h) (Or.inl ⟨by rfl, ?_⟩) hHeld ?_
  rotate_left
  · rintro w' s0; go_simp; rfl
  try simp only [Act.put, List.setIfInBounds_toArray, List.set_cons_zero, List.set_cons_succ]
  refine takeL (i := 2) (v := ?_) rfl (by kernel_rfl) (by kernel_rfl) (by kernel_rfl) (fun _ _ _ h => h) (Or.inl ⟨by rfl, ?_⟩) hHeld ?_
  rotate_left
  · rintro w' s0; go_simp; rfl
  try simp only [Act.put, List.setIfInBounds_toArray, List.set_cons_zero, List.set_cons_succ]
  refine takeL (i := 3) (v := ?_) rfl (by kernel_rfl) (by kernel_rfl) (by kernel_rfl) (fun _ _ _ h => h) (Or.inl ⟨by rfl, ?_⟩) hHeld ?_
  rotate_left
  · rintro w' s0; go_simp; rfl
  try simp only [Act.put, List.setIfInBounds_toArray, List.set_cons_zero, List.set_cons_succ]
  refine takeL (i := 4) (v := ?_) rfl (by kernel_rfl) (by kernel_rfl) (by kernel_rfl) (fun _ _ _ h => h) (Or.inl ⟨by rfl, ?_⟩) hHeld ?_
  rotate_left
  · rintro w' s0; go_simp; rfl
  try simp only [Act.put, List.setIfInBounds_toArray, List.set_cons_zero, List.set_cons_succ]
  refine takeL (i := 5) (v := ?_) rfl (by kernel_rfl) (by kernel_rfl) (by kernel_rfl) (fun _ _ _ h => h) (Or.inl ⟨by rfl, ?_⟩) hHeld ?_
  rotate_left
  · rintro w' s0; go_simp; rfl
  try simp only [Act.put, List.setIfInBounds_toArray, List.set_cons_zero, List.set_cons_succ]
  refine wpAnyH_ready (rs := [6]) (by kernel_rfl) (by simp) ?_
  refine consL rfl (fun KK hKK => ?_) AllReadyH.nil
  refine step_callv (by rfl) 44 [.tmp 11, .tmp 12] _ [.int .i32 s, .int .u8 x] _ (by rfl) (by rfl) (enter44 _ _) (HK.out _) ?_
  rintro e w1 ⟨rfl, rfl⟩
  refine ⟨_, rfl, ?_⟩
  refine hKK.out _ _ hHeld (fun hHeld2 => ?_)
  clear hKK KK
  try simp only [Act.put, List.setIfInBounds_toArray, List.set_cons_zero, List.set_cons_succ]
  refine wpAnyH_ready (rs := [7]) (by kernel_rfl) (by simp) ?_
  refine consL rfl (fun KK hKK => ?_) AllReadyH.nil
  refine step_exec (by rfl) (.int .i32 (F.m s x)) (w' := w.drew) (by simp [execOp, Act.eval, hl1, Result.andThen]) ?_
  refine hKK.out _ _ hHeld (fun hHeld2 => ?_)
  clear hKK KK
  try simp only [Act.put, List.setIfInBounds_toArray, List.set_cons_zero, List.set_cons_succ]
  refine takeL (i := 8) (v := ?_) rfl (by kernel_rfl) (by kernel_rfl) (by kernel_rfl) (fun _ _ _ h => h) (Or.inl ⟨by rfl, ?_⟩) hHeld ?_
  rotate_left
  · rintro w' s0; go_simp; rfl
  try simp only [Act.put, List.setIfInBounds_toArray, List.set_cons_zero, List.set_cons_succ]
  refine wpAnyH_done (by kernel_rfl) ?_ _
  go_wp2_with fail
  go_ret
  exact ⟨rfl, 1, rfl⟩
end Go.Proofs.YtblegkefeiefjaaDoor
