/- 'slices.AppendSeq', 'slices.Collect', 'diff.Lines'. -/
import Derived.Test.YtakddciegnkpdaaDfI
namespace Go.Proofs.Ytakddciegnkpdaa
open Go.RowKit Go.Shelf
set_option linter.unusedVariables false
set_option linter.unusedSectionVars false
set_option linter.unusedSimpArgs false
attribute [local go_sem] Oper.semAt_some
def fS (es : List Str) : List Value := es.flatMap encS
theorem fS_snoc (es : List Str) (x : Str) : fS (es ++ [x]) = fS es ++ [sV x] := by simp [fS, encS]
/-- What the loop keeps. -/
def CoI (w : World) (X : Nat) (v : Value) (pre : List Str) (W : World) : Prop :=
  ∃ u, Boxed W X 36 u ∧ W.ownsRow X 9 1 u pre.length (fS pre) ∧ Mv w W v u
theorem CoI.grow {w : World} {X : Nat} {v : Value} (s : List Str) (A C : World) (h : CoI w X v s A) (hg : A.grownBy C none) : CoI w X v s C := by
  obtain ⟨u, h1, h2, h3⟩ := h
  exact ⟨u, h1.kept hg (by simp), h2.kept hg (by cases e : u.ownBlock <;> simp), h3.trans (Mv.grow u hg)⟩
theorem CoI.turn {w : World} {X Bs : Nat} {v : Value} (hw : w.heap.size ≤ Bs) (hB : Bs < X) (s : List Str) (A C : World) (h : CoI w X v s A) (hg : A.grownBy C (some Bs)) : CoI w X v s C := by
  obtain ⟨u, h1, h2, h3⟩ := h
  refine ⟨u, h1.kept hg (fun e => by cases e; omega), h2.kept hg ?_, ⟨hg.os.trans h3.os, hg.tape.trans h3.tape, hg.output.trans h3.output, Nat.le_trans h3.size hg.size, fun k hk hn => (hg.block k (Nat.lt_of_lt_of_le hk h3.size) (fun e => by cases e; omega)).trans (h3.blk k hk hn), h3.at_⟩⟩
  cases e : u.ownBlock with
  | none => exact .inl rfl
  | some k => exact .inr (fun e2 => by cases e2; have := (h2.lt _ e).1; omega)
theorem CoI.put {w : World} {X : Nat} {v : Value} {n : Nat} (hX : X < n) (hw : w.heap.size ≤ n) (s : List Str) (l : Nat) (W : World) (r r' : Loop) (hl : n ≤ l) (hr : W.heap[l]? = some (.loop r)) (h : CoI w X v s W) : CoI w X v s (W.putObj l (.loop r')) := by
  obtain ⟨u, h1, h2, h3⟩ := h
  exact ⟨u, (World.putObj_heap_other (by omega)).trans h1, ownsRow_putObj h2 _ hr rfl, h3.put _ (by omega)⟩
theorem Try.results29 : Try.f29.results = #[.tmp 4] := by kernel_rfl
/-- The lines, of one's own. -/
def PostK (l : List Str) (w00 w : World) (e : Ending) (w' : World) : Prop := ∃ v', e = .returned v' ∧ w'.ownsRow w.heap.size 9 1 v' l.length (fS l) ∧ Below w00.heap.size w00 w'
set_option maxRecDepth 100000 in
set_option maxHeartbeats 4000000 in
theorem appendSeq_any (Bs : Nat) (s : Str) (hl : s.length ≤ 4000) (w00 w : World) (hb0 : Below w00.heap.size w00 w) (hB0 : w00.heap.size ≤ Bs) (hbs : Boxed w Bs 9 (sV s)) :
    Calls Try.prog 29 #[.slice none 0 0, .func (.func 30) #[] #[.pointer (some ⟨Bs, 0, none⟩)]] w (PostK (lns s) w00 w) := by
  obtain ⟨i9, hq, hz0, hz1, hz2⟩ := info_parts Try.info9
  have HI : Hid (Try.prog.info? 9 = some i9) := hq
  have HZ0 : Hid (i9.zero = some (.string ⟨#[]⟩)) := hz0
  have HZ1 : Hid (i9.size = 1) := hz1
  have HZ2 : Hid (i9.bytes = 16) := hz2
  clear hq hz0 hz1 hz2
  have HBS : Hid (Boxed w Bs 9 (sV s)) := hbs
  have HB0 : Hid (Below w00.heap.size w00 w) := hb0
  have hs0 := hb0.size
  clear hbs hb0
  refine (callsIn_wide (n := 3)).1 ?_
  refine callsIn_of_wp_marks Try.func29 rfl trivial ?_ rfl
  simp only [Try.ntmps29, List.size_toArray, List.length_cons, List.length_nil, Nat.reduceAdd, Nat.reduceSub, Array.replicate_succ, Array.replicate_zero, List.push_toArray, List.append_toArray, List.nil_append, List.cons_append]
  gi_wp2
  obtain ⟨X, HX⟩ : ∃ X, Hid (X = w.heap.size) := ⟨_, rfl⟩
  obtain ⟨WL, HWL⟩ : ∃ WL, Hid (w.alloc (.cells #[.slice none 0 0] 36) = WL) := ⟨_, rfl⟩
  have hgw : w.grownBy WL none := by rw [← HWL.out]; exact hg_alloc w _
  have hsz : WL.heap.size = X + 1 := by rw [← HWL.out, HX.out]; simp
  have bX : Boxed WL X 36 (.slice none 0 0) := by rw [← HWL.out, HX.out]; exact Boxed.new w 36 _
  have hno : ∀ k, ¬ Ob X WL k := fun k ⟨u, h1, h2⟩ => by rw [bX.cell] at h1; cases h1; cases h2
  have hM0 : Mv w00 w (.slice none 0 0) (.slice none 0 0) := ⟨HB0.out.os, HB0.out.tape, HB0.out.output, HB0.out.size, fun k hk _ => HB0.out.block k hk, .inl rfl⟩
  have hI0 : CoI w00 X (.slice none 0 0) [] WL := ⟨_, bX, World.ownsRow_nil _ _ _ _, hM0.trans (Mv.grow _ hgw)⟩
  have bS : Boxed WL Bs 9 (sV s) := HBS.out.kept hgw (by simp)
  have hBsX : Bs < X := by rw [HX.out]; exact HBS.out.lt
  rw [HWL.out]
  rw [← HX.out]
  have hXw : w.heap.size ≤ X := by rw [HX.out]; exact Nat.le_refl _
  have hX00 : w00.heap.size ≤ X := by omega
  refine range_allA (F := Fence.wide) (n := 3) rfl (by omega) (gf := 30) (lb := #[.pointer (some ⟨Bs, 0, none⟩)]) rfl trivial (enters_of Try.func30 (by kernel_rfl) rfl) (Bs := Bs) (by omega)
    (lines_all 2 (by omega) WL X Bs s hl bS (by omega) ⟨by omega, by omega, hno _⟩ (fun k hk => absurd hk (hno k)))
    (fun _ => rfl) Kx.trans (fun l W r r' hl _ => Kx.loop (r := r) (by omega)) (fun l W r r' x hl hr hf => trivial)
    (CoI w00 X (.slice none 0 0)) (fun s A C h hg => CoI.grow s A C h hg) (fun s A C h hg => CoI.turn hB0 hBsX s A C h hg) (fun s l W r r' hl hr h => CoI.put (n := WL.heap.size) (by omega) (by omega) s l W r r' hl hr h) hI0
    (fun x W => { tmps := #[.slice none 0 0, .func (.func 30) #[] #[.pointer (some ⟨Bs, 0, none⟩)], .pointer (some ⟨X, 0, none⟩), undef, .slice none 0 0, sV x, .func (.func 30) #[] #[.pointer (some ⟨Bs, 0, none⟩)], sV x, undef, undef, undef, undef, undef], defers := [] }) (fun x W => W) ?_ ?_ (fun x W h => trivial) ?assign ?body ?done
  · intro x W; exact ⟨rfl, rfl, rfl, Nat.le_refl _, fun _ _ _ => rfl⟩
  · intro l x W h1 h2; exact Kx.refl _ _ _
  case assign =>
    intro l x W K _ hK
    dsimp only [encL]
    gi_wp2
    exact hK
  case body =>
    rintro l pre x W0 W hlX hlW0 hoth ⟨u, b1, o1, m1⟩ _ hlen hlW hsW
    have hlX' : X + 1 ≤ l := by omega
    clear hsz
    obtain ⟨N, HN⟩ : ∃ N, Hid (N = pre.length) := ⟨_, rfl⟩
    obtain ⟨L, HL⟩ : ∃ L, Hid (L = fS pre) := ⟨_, rfl⟩
    have hN : N ≤ 5000 := by rw [HN.out]; omega
    rw [← HN.out, ← HL.out] at o1
    obtain ⟨ua, uc, rfl⟩ := owns_shape o1
    obtain ⟨T, HT⟩ : ∃ T : Value, Hid (sV x = T) := ⟨_, rfl⟩
    have HRB : Hid (∀ W, (Instr.buildSlice 36 1 #[(0, T)]).run Try.prog W = .ok (.slice (some ⟨W.heap.size, 0, none⟩) 1 1) (W.alloc (.cells #[T] 9))) := fun W => by rw [← HT.out]; exact run_build24 x W
    have HT1 : Hid (∀ v ∈ [T], v.oneCell' = true) := fun v hv => by rw [List.mem_singleton.1 hv, ← HT.out]; rfl
    have hXne : some X ≠ (Value.slice ua N uc).ownBlock := b1.not_row (by decide) o1
    have k0 := b1.cell
    have f0 := b1.frozen
    have hBW : X ≤ W.heap.size := by have := b1.lt; omega
    have HO1 : Hid (W.ownsRow X 9 1 (.slice ua N uc) N L) := o1
    have HB1 : Hid (Boxed W X 36 (.slice ua N uc)) := b1
    have HM1 : Hid (Mv w00 W (.slice none 0 0) (.slice ua N uc)) := m1
    have HNR : Hid (∀ j z, [T][j]? = some z → (W.alloc (.cells #[T] 9)).cell? ((⟨W.heap.size, 0, none⟩ : Addr).add j) = some z) := news_rowE W [T] 9
    clear o1 b1 m1 hoth
    rw [HT.out]
    gi_wp2_with (first
      | refine wpListIn_buildSlice rfl 36 1 _ rfl T _ rfl (HRB.out _) ?_
      | (gi_at_builtin; refine wpListIn_append_own_at _ rfl _ _ 36 rfl X 9 i9 (.string ⟨#[]⟩) 1 16 und24 HI.out HZ0.out HZ1.out HZ2.out rfl (by decide) _ N L rfl (HO1.out.alloc _) ⟨W.heap.size, 0, none⟩ 1 1 [T] rfl rfl HNR.out HT1.out (by unfold maxLen; omega) (by omega) (by simp; omega) ?_; intro v1 w1 ho1 hg1 hn1 hl1; obtain ⟨a1, c1, rfl⟩ := owns_shape ho1; have HV1 : Hid (Mv W w1 (.slice ua N uc) (.slice a1 (N + 1 : Nat) c1)) := Mv.app (hg_alloc W _) hg1 hl1; have HW1 : Hid (w1.ownsRow X 9 1 (.slice a1 (N + 1 : Nat) c1) (N + 1) (L ++ [T])) := ho1; clear ho1 hg1 hn1 hl1; have HB2 : Hid (Boxed w1 X 36 (.slice ua N uc)) := (HV1.out.blk X HB1.out.lt hXne).trans HB1.out; have kx1 := HB2.out.cell; have fx1 := HB2.out.frozen))
    have K1 := keeps_mv HB1.out HO1.out HV1.out WL.heap.size
    have X1 : Kx X l W (w1.setCell ⟨X, 0, none⟩ (.slice a1 (N + 1 : Nat) c1)) := Kx.mv HB1.out HV1.out hXne (fun k hk => (HW1.out.lt k hk).2)
    have hS3 : some X ≠ (Value.slice a1 (N + 1 : Nat) c1).ownBlock := Boxed.not_row HB2.out (by decide) HW1.out
    refine ⟨K1, X1, _, Boxed.set _ HB2.out, ?_, (HM1.out.trans HV1.out).store hX00 _⟩
    rw [List.length_append, fS_snoc, ← HN.out, ← HL.out, HT.out]
    exact HW1.out.kept (grownBy_setCell' w1 X (.slice a1 (N + 1 : Nat) c1)) (.inr (Ne.symm hS3))
  case done =>
    rintro D xs W hD hS ⟨u, b1, o1, m1⟩ hK
    subst hS
    obtain ⟨ua, uc, rfl⟩ := owns_shape o1
    have k0 := b1.cell
    have HK : Hid (W.heap[D]? = some (.deferred (some []))) := hK
    have hwD : w00.heap.size ≤ D := by omega
    gi_wp2
    refine ret_1 Try.results29 _ _ D (.slice ua (lns s).length uc) rfl HK.out _ ⟨_, rfl, ?_, (m1.put _ hwD).below (fun k hk => by cases hk) (Nat.le_refl _)⟩
    rw [← HX.out]
    exact ownsRow_putObj o1 _ HK.out rfl
end Go.Proofs.Ytakddciegnkpdaa
