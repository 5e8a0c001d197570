/- 'slices.AppendSeq' and 'slices.Collect' of a set's ids. -/
import Derived.Test.YtjgjeedablgmeaaDoorGtB
namespace Go.Proofs.YtjgjeedablgmeaaDoor
open Go.RowKit Go.Shelf Go.Maps
set_option linter.unusedVariables false
set_option linter.unusedSectionVars false
set_option linter.unusedSimpArgs false
attribute [local go_sem] Oper.semAt_some
def fI (es : List (List Int)) : List Value := es.flatMap (row .u8)
theorem fI_snoc (es : List (List Int)) (x : List Int) : fI (es ++ [x]) = fI es ++ row .u8 x := by simp [fI]
/-- What the loop keeps. -/
def CoI (w : World) (X B : Nat) (v : Value) (pre : List (List Int)) (W : World) : Prop :=
  ∃ u, Boxed W X 32 u ∧ W.ownsRow B 42 20 u pre.length (fI pre) ∧ Mv w W v u
theorem CoI.grow {w : World} {X B : Nat} {v : Value} (s : List (List Int)) (A C : World) (h : CoI w X B v s A) (hg : A.grownBy C none) : CoI w X B v s C := by
  obtain ⟨u, h1, h2, h3⟩ := h
  exact ⟨u, h1.kept hg (by simp), h2.kept hg (by cases e : u.ownBlock <;> simp), h3.trans (Mv.grow u hg)⟩
theorem CoI.turn {w : World} {X B : Nat} {v : Value} (s : List (List Int)) (A C : World) (r : Nat) (hr : w.heap.size ≤ r) (hi : Itr A r) (h : CoI w X B v s A) (hg : A.grownBy C (some r)) : CoI w X B v s C := by
  obtain ⟨u, h1, h2, h3⟩ := h
  obtain ⟨m, s', seen, c, hit⟩ := hi
  have hrX : some X ≠ some r := fun e => by
    cases e
    have := h1
    unfold Boxed at this
    rw [hit] at this
    cases this
  have hru : ∀ k, u.ownBlock = some k → k ≠ r := fun k hk e => by
    obtain ⟨cur, hcur⟩ := owns_cells h2 hk
    rw [e, hit] at hcur
    cases hcur
  refine ⟨u, h1.kept hg hrX, h2.kept hg ?_, ⟨hg.os.trans h3.os, hg.tape.trans h3.tape, hg.output.trans h3.output, Nat.le_trans h3.size hg.size, fun k hk hn => (hg.block k (Nat.lt_of_lt_of_le hk h3.size) (fun e => by cases e; omega)).trans (h3.blk k hk hn), h3.at_⟩⟩
  cases e : u.ownBlock with
  | none => exact .inl rfl
  | some k => exact .inr (fun e2 => hru k e (by cases e2; rfl))
theorem CoI.put {w : World} {X B : Nat} {v : Value} {n : Nat} (hX : X < n) (hw : w.heap.size ≤ n) (s : List (List Int)) (l : Nat) (W : World) (r r' : Loop) (hl : n ≤ l) (hr : W.heap[l]? = some (.loop r)) (h : CoI w X B v s W) : CoI w X B v s (W.putObj l (.loop r')) := by
  obtain ⟨u, h1, h2, h3⟩ := h
  exact ⟨u, (World.putObj_heap_other (by omega)).trans h1, ownsRow_putObj h2 _ hr rfl, h3.put _ (by omega)⟩
theorem Tryd.results66 : Tryd.f66.results = #[.tmp 4] := by kernel_rfl
/-- Ids of its own: those of a set. -/
def PostK (S : List Int → Prop) (w : World) (e : Ending) (w' : World) : Prop := ∃ v' xs, e = .returned v' ∧ Lst' S xs ∧ w'.ownsRow w.heap.size 42 20 v' xs.length (fI xs) ∧ Below w.heap.size w w'
set_option maxRecDepth 100000 in
set_option maxHeartbeats 4000000 in
theorem appendSeq_any (Bs g ns : Nat) (S : List Int → Prop) (w : World) (hS : SI w g ns S) (hl : ns ≤ 1000) (hbs : Boxed w Bs 67 (.map (some g))) :
    Calls Tryd.prog 66 #[.slice none 0 0, .func (.func 64) #[] #[.pointer (some ⟨Bs, 0, none⟩)]] w (PostK S w) := by
  obtain ⟨i42, hq, hz0, hz1, hz2⟩ := info_parts Tryd.info42
  have HI : Hid (Tryd.prog.info? 42 = some i42) := hq
  have HZ0 : Hid (i42.zero = some (.agg (row .u8 z20).toArray)) := hz0
  have HZ1 : Hid (i42.size = 20) := hz1
  have HZ2 : Hid (i42.bytes = 20) := hz2
  have HS42 : Hid ((Tryd.prog.info? 42).map (·.size) = some 20) := Tryd.size42
  clear hq hz0 hz1 hz2
  have HSI : Hid (SI w g ns S) := hS
  have HBS : Hid (Boxed w Bs 67 (.map (some g))) := hbs
  clear hS hbs
  obtain ⟨zr, HZ⟩ : ∃ zr : Array Value, Hid (zr = (row .u8 z20).toArray) := ⟨_, rfl⟩
  have hz42 : ∀ w : World, (zeroValue 42).run Tryd.prog w = .ok (.agg zr) w := fun w => by rw [HZ.out]; exact zero42 w
  refine (callsIn_wide (n := 3)).1 ?_
  refine callsIn_of_wp_marks Tryd.func66 rfl trivial ?_ rfl
  simp only [Tryd.ntmps66, List.size_toArray, List.length_cons, List.length_nil, Nat.reduceAdd, Nat.reduceSub, Array.replicate_succ, Array.replicate_zero, List.push_toArray, List.append_toArray, List.nil_append, List.cons_append]
  gi_wp2
  obtain ⟨X, HX⟩ : ∃ X, Hid (X = w.heap.size) := ⟨_, rfl⟩
  obtain ⟨WL, HWL⟩ : ∃ WL, Hid (w.alloc (.cells #[.slice none 0 0] 32) = WL) := ⟨_, rfl⟩
  have hgw : w.grownBy WL none := by rw [← HWL.out]; exact hg_alloc w _
  have hsz : WL.heap.size = X + 1 := by rw [← HWL.out, HX.out]; simp
  have bX : Boxed WL X 32 (.slice none 0 0) := by rw [← HWL.out, HX.out]; exact Boxed.new w 32 _
  have hno : ∀ k, ¬ Ob X WL k := fun k ⟨u, h1, h2⟩ => by rw [bX.cell] at h1; cases h1; cases h2
  have hbw : Below w.heap.size w WL := ⟨hgw.os, hgw.tape, hgw.output, hgw.size, fun k hk => hgw.block k hk (by simp)⟩
  have hI0 : CoI w X X (.slice none 0 0) [] WL := ⟨_, bX, World.ownsRow_nil _ _ _ _, Mv.grow _ hgw⟩
  have hSL : SI WL g ns S := HSI.out.below hbw
  have bS : Boxed WL Bs 67 (.map (some g)) := HBS.out.kept hgw (by simp)
  have hBsX : Bs < X := by rw [HX.out]; exact HBS.out.lt
  have hgX : g < X := by rw [HX.out]; exact HSI.out.lt
  rw [HWL.out]
  rw [← HX.out]
  have hXw : w.heap.size ≤ X := by rw [HX.out]; exact Nat.le_refl _
  refine range_allA (F := Fence.wide) (n := 3) rfl (by omega) (gf := 64) (lb := #[.pointer (some ⟨Bs, 0, none⟩)]) rfl trivial (enters_of Tryd.func64 (by kernel_rfl) rfl)
    (keys_all 2 (by omega) WL X Bs g ns S hSL hl bS (by omega) ⟨by omega, by omega, hno _⟩ ⟨by omega, by omega, hno _⟩ (fun k hk => absurd hk (hno k)))
    (fun _ => rfl) Kx.trans (fun l W r r' hl _ => Kx.loop (r := r) (by omega)) (fun l W r r' x hl hr hf => hf)
    (CoI w X X (.slice none 0 0)) (fun s A C h hg => CoI.grow s A C h hg) (fun s A C r hr hi h hg => CoI.turn s A C r (by omega) hi h hg) (fun s l W r r' hl hr h => CoI.put (n := WL.heap.size) (by omega) (by omega) s l W r r' hl hr h) hI0
    (fun x W => { tmps := #[.slice none 0 0, .func (.func 64) #[] #[.pointer (some ⟨Bs, 0, none⟩)], .pointer (some ⟨X, 0, none⟩), undef, .slice none 0 0, .pointer (some ⟨W.heap.size, 0, none⟩), .func (.func 64) #[] #[.pointer (some ⟨Bs, 0, none⟩)], .agg (row .u8 x).toArray, undef, undef, undef, undef, undef], defers := [] }) (fun x W => (W.alloc (.cells zr 42)).setRow W.heap.size (row .u8 x).toArray) ?_ ?_ (fun x W h => h) ?assign ?body ?done
  · intro x W; exact grown_of_below (below_setRow ((Below.refl _ W).alloc (Nat.le_refl _) _) (Nat.le_refl _) _) _
  · intro l x W h1 h2; exact Kx.grow (by omega) (grown_of_below (below_setRow ((Below.refl _ W).alloc (Nat.le_refl _) _) (Nat.le_refl _) _) _)
  case assign =>
    intro l x W K hx20 hK
    obtain ⟨R, HR⟩ : ∃ R : List Value, Hid (row .u8 x = R) := ⟨_, rfl⟩
    have HFN : Hid (R.length = 20) := hid (by rw [← HR.out, row_len]; exact hx20.1)
    have I42 : Hid ((Tryd.prog.info? 42).map (·.size) = some R.toArray.size) := hid (by rw [List.size_toArray, HFN.out]; exact HS42.out)
    have E42 : Hid (zr.size = R.toArray.size) := hid (by rw [HZ.out, List.size_toArray, List.size_toArray, HFN.out]; rfl)
    have O42 : Hid (R.toArray.all (·.oneCell') = true) := hid (by rw [← HR.out]; exact all_oneCell_toArray (row_one _ _))
    have D0 : Hid ((W.alloc (.cells zr 42)).heap[W.heap.size]? = some (.cells zr 42 (0, 0))) := heap_alloc_new W _
    rw [HR.out] at hK
    dsimp only [encI]
    rw [HR.out]
    gi_wp2_with (refine wpListIn_store_row rfl 42 _ _ rfl W.heap.size R.toArray rfl rfl 42 zr D0.out I42.out E42.out O42.out ?_)
    exact hK
  case body =>
    rintro l pre x W0 W hlX hlW0 hoth ⟨u, b1, o1, m1⟩ hx20 hlen hlW hsW
    have hlX' : X + 1 ≤ l := by omega
    clear hsz
    obtain ⟨N, HN⟩ : ∃ N, Hid (N = pre.length) := ⟨_, rfl⟩
    obtain ⟨L, HL⟩ : ∃ L, Hid (L = fI pre) := ⟨_, rfl⟩
    have hN : N ≤ 1000 := by rw [HN.out]; omega
    rw [← HN.out, ← HL.out] at o1
    obtain ⟨ua, uc, rfl⟩ := owns_shape o1
    obtain ⟨V, HV⟩ : ∃ V, Hid (W0.heap.size = V) := ⟨_, rfl⟩
    obtain ⟨R, HR⟩ : ∃ R : List Value, Hid (row .u8 x = R) := ⟨_, rfl⟩
    have HFN : Hid (R.length = 20) := hid (by rw [← HR.out, row_len]; exact hx20.1)
    have hi42 : (Tryd.prog.info? 42).map (·.size) = some R.length := by rw [HFN.out]; exact HS42.out
    have R2 : Hid (W.rangeAt V 0 R) := hid (by
      rw [← HV.out, ← HR.out]
      refine range_row (t := 42) (fr := (0, 0)) ?_
      rw [hoth _ (by omega)]
      exact setRow_heap _ _ _ (row .u8 x).toArray _ _ (heap_alloc_new W0 _))
    have HRB : Hid (∀ W, (Instr.buildSlice 32 1 #[(0, .agg R.toArray)]).run Tryd.prog W = .ok (.slice (some ⟨W.heap.size, 0, none⟩) 1 1) (W.alloc (.cells R.toArray 42))) := fun W => by rw [← HR.out]; exact run_build32 x hx20.1 W
    have HR1 : Hid (∀ v ∈ R, v.oneCell' = true) := hid (by rw [← HR.out]; exact row_one _ x)
    have hXne : some X ≠ (Value.slice ua N uc).ownBlock := b1.not_row (by decide) o1
    have k0 := b1.cell
    have f0 := b1.frozen
    have hBW : X ≤ W.heap.size := by have := m1.size; omega
    have HO1 : Hid (W.ownsRow X 42 20 (.slice ua N uc) N L) := o1
    have HB1 : Hid (Boxed W X 32 (.slice ua N uc)) := b1
    have HM1 : Hid (Mv w W (.slice none 0 0) (.slice ua N uc)) := m1
    have HNR : Hid (∀ j z, R[j]? = some z → (W.alloc (.cells R.toArray 42)).cell? ((⟨W.heap.size, 0, none⟩ : Addr).add j) = some z) := news_rowE _ _ _
    clear o1 b1 m1 hoth
    rw [HV.out]
    gi_wp2_with (first
      | refine wpListIn_load_mid rfl 42 _ rfl V 0 rfl R _ R2.out Tryd.underlying42 rfl hi42 ?_
      | refine wpListIn_buildSlice rfl 32 1 _ rfl (.agg R.toArray) _ rfl (HRB.out _) ?_
      | (gi_at_builtin; refine wpListIn_append_own_at _ rfl _ _ 32 rfl X 42 i42 (.agg (row .u8 z20).toArray) 20 20 Tryd.underlying32 HI.out HZ0.out HZ1.out HZ2.out rfl (by decide) _ N L rfl (HO1.out.alloc _) ⟨W.heap.size, 0, none⟩ 1 1 R rfl (by rw [HFN.out]) HNR.out HR1.out (by unfold maxLen; omega) (by omega) (by simp; omega) ?_; intro v1 w1 ho1 hg1 hn1 hl1; obtain ⟨a1, c1, rfl⟩ := owns_shape ho1; have HV1 : Hid (Mv W w1 (.slice ua N uc) (.slice a1 (N + 1 : Nat) c1)) := Mv.app (hg_alloc W _) hg1 hl1; have HW1 : Hid (w1.ownsRow X 42 20 (.slice a1 (N + 1 : Nat) c1) (N + 1) (L ++ R)) := ho1; clear ho1 hg1 hn1 hl1; have HB2 : Hid (Boxed w1 X 32 (.slice ua N uc)) := (HV1.out.blk X HB1.out.lt hXne).trans HB1.out; have kx1 := HB2.out.cell; have fx1 := HB2.out.frozen))
    have K1 := keeps_mv HB1.out HO1.out HV1.out WL.heap.size
    have X1 : Kx X l W (w1.setCell ⟨X, 0, none⟩ (.slice a1 (N + 1 : Nat) c1)) := Kx.mv HB1.out HV1.out hXne (fun k hk => (HW1.out.lt k hk).2)
    have hS3 : some X ≠ (Value.slice a1 (N + 1 : Nat) c1).ownBlock := Boxed.not_row HB2.out (by decide) HW1.out
    refine ⟨K1, X1, _, Boxed.set _ HB2.out, ?_, (HM1.out.trans HV1.out).store hXw _⟩
    rw [List.length_append, fI_snoc, ← HN.out, ← HL.out, HR.out]
    exact HW1.out.kept (grownBy_setCell' w1 X (.slice a1 (N + 1 : Nat) c1)) (.inr (Ne.symm hS3))
  case done =>
    rintro D xs W hD hS ⟨u, b1, o1, m1⟩ hK
    obtain ⟨ua, uc, rfl⟩ := owns_shape o1
    have k0 := b1.cell
    have HK : Hid (W.heap[D]? = some (.deferred (some []))) := hK
    have hwD : w.heap.size ≤ D := by omega
    gi_wp2
    refine ret_1 Tryd.results66 _ _ D (.slice ua xs.length uc) rfl HK.out _ ⟨_, xs, rfl, hS, ?_, (m1.put _ hwD).below (fun k hk => by cases hk) (Nat.le_refl _)⟩
    rw [← HX.out]
    exact ownsRow_putObj o1 _ HK.out rfl
theorem keys_call (g : Nat) (w : World) : Calls Tryd.prog 59 #[.map (some g)] w fun e w' => e = .returned (.func (.func 64) #[] #[.pointer (some ⟨w.heap.size, 0, none⟩)]) ∧ w' = w.alloc (.cells #[.map (some g)] 67) := by
  go_enter Tryd.func59, Tryd.ntmps59
  go_wp2
  go_ret
  exact ⟨rfl, rfl⟩
theorem collect_any (Bs g ns : Nat) (S : List Int → Prop) (w : World) (hS : SI w g ns S) (hl : ns ≤ 1000) (hbs : Boxed w Bs 67 (.map (some g))) :
    Calls Tryd.prog 62 #[.func (.func 64) #[] #[.pointer (some ⟨Bs, 0, none⟩)]] w (PostK S w) := by
  have HC : Hid (Calls Tryd.prog 66 #[.slice none 0 0, .func (.func 64) #[] #[.pointer (some ⟨Bs, 0, none⟩)]] w (PostK S w)) := appendSeq_any Bs g ns S w hS hl hbs
  clear hS hbs
  go_enter Tryd.func62, Tryd.ntmps62
  go_wp2_with fail
  refine HC.out.mono ?_
  rintro e w1 ⟨v, xs, rfl, hx, ho, hb⟩
  have HX : Hid (Lst' S xs) := hx
  have HO : Hid (w1.ownsRow w.heap.size 42 20 v xs.length (fI xs)) := ho
  have HB : Hid (Below w.heap.size w w1) := hb
  clear hx ho hb
  go_wp2
  go_ret
  exact ⟨v, xs, rfl, HX.out, HO.out, HB.out⟩
/-- What is sorted: the ids of a set, rising. -/
def PostSo (S : List Int → Prop) (w : World) (e : Ending) (w' : World) : Prop := ∃ a cap xs, e = .returned (.slice a xs.length cap) ∧ Lst' S xs ∧ xs.Pairwise (fun x y => ¬ Lib.bytesOf y < Lib.bytesOf x) ∧ Pa w' a cap xs ∧ Below w.heap.size w w'
end Go.Proofs.YtjgjeedablgmeaaDoor
