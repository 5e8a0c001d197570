/- 'Make'. -/
import Derived.Test.YtblegkefeiefjaaDoorCuA
namespace Go.Proofs.YtblegkefeiefjaaDoor
open Go.RowKit Go.Shelf Go.Maps Plain
set_option linter.unusedVariables false
set_option linter.unusedSimpArgs false
attribute [local go_sem] Oper.semAt_some

theorem cut_in (n : Nat) (a1 a2 : Option Addr) (n1 c1 n2 c2 : Nat) (w : World) :
    CallsIn Fence.wide n Tryd.prog 21 #[.slice a1 n1 c1, .slice a2 n2 c2] w fun e w' => e = .returned (.func (.func 30) #[] #[.pointer (some ⟨w.heap.size, 0, none⟩), .pointer (some ⟨w.heap.size + 1, 0, none⟩)]) ∧ w' = (w.alloc (.cells #[.slice a1 n1 c1] 22)).alloc (.cells #[.slice a2 n2 c2] 22) := by
  refine callsIn_of_wp Tryd.func21 rfl trivial ?_ rfl
  simp only [Tryd.ntmps21, List.size_toArray, List.length_cons, List.length_nil, Nat.reduceAdd, Nat.reduceSub, Array.replicate_succ, Array.replicate_zero, List.push_toArray, List.append_toArray, List.nil_append, List.cons_append]
  gi_wp2
  go_ret
  exact ⟨rfl, rfl⟩
section
variable {F : Fence} {nF : Nat} {P : Program} {w : World}
/-- 'append' of nothing. -/
theorem wpListIn_append_nil {ops : Array Oper} {rest : List Oper} {o : Oper} {a : Act} {Q : Exit → Act → World → Prop} (hgd : o.guard = none) (s x : Operand) (t : TypeId)
    (ho : o.op = .call { callee := .builtin .append, args := #[s, x], argTypes := #[t, t] })
    (base : Nat) (e : TypeId) (i : TypeInfo) (size : Nat) (ht : P.underlying t = some (.slice e)) (hi : P.info? e = some i)
    (v : Value) (n : Nat) (xs : List Value) (hs : a.eval s = v) (hown : w.ownsRow base e size v n xs) (hx : a.eval x = .slice none 0 0)
    (h : wpListIn F nF P ops Q rest (a.put o.dst v) w) :
    wpListIn F nF P ops Q (o :: rest) a w := by
  refine wpListIn_plain hgd fun K hK => ?_
  have hr := run_append_owned_none (P := P) w base t o.type e i size ht hi v n xs hown
  unfold Oper.wpIn
  refine ⟨by simp [Oper.about, ho, resolve, Target.leads, Sem.run_pure], ?_⟩
  rw [Oper.semAt_plain F _ _ (by rw [ho]; intro c hc'; cases hc')]
  simp [execOp, ho, resolve, invoke, builtin, hs, hx, hr, Result.andThen]
  exact hK _ _ h
end
/-- What the loop keeps. -/
def MkI (w : World) (X B : Nat) (hd : List Int) (pre : List Cx) (W : World) : Prop :=
  ∃ u, Boxed W X 22 u ∧ W.ownsRow B 5 1 u (hd ++ stps (pre.map Cx.pr)).length ((hd ++ stps (pre.map Cx.pr)).map (Value.int .u8)) ∧ Below B w W ∧ (stps (pre.map Cx.pr)).length ≤ 101000 * pre.length
theorem MkI.grow {w : World} {X B : Nat} {hd : List Int} (hB : B = w.heap.size) (s : List Cx) (A C : World) (h : MkI w X B hd s A) (hg : A.grownBy C none) : MkI w X B hd s C := by
  obtain ⟨u, h1, h2, h3, h4⟩ := h
  exact ⟨u, h1.kept hg (by simp), h2.kept hg (by cases e : u.ownBlock <;> simp), h3.grown hg (by rw [hB]; have := h3.size; omega) (fun k e => by cases e), h4⟩
theorem MkI.put {w : World} {X B : Nat} {hd : List Int} {n : Nat} (hX : X < n) (hw : B ≤ n) (s : List Cx) (l : Nat) (W : World) (r r' : Loop) (hl : n ≤ l) (hr : W.heap[l]? = some (.loop r)) (h : MkI w X B hd s W) : MkI w X B hd s (W.putObj l (.loop r')) := by
  obtain ⟨u, h1, h2, h3, h4⟩ := h
  exact ⟨u, (World.putObj_heap_other (by omega)).trans h1, ownsRow_putObj h2 _ hr rfl, ⟨h3.os, h3.tape, h3.output, by rw [World.putObj_size]; exact h3.size, fun k hk => (World.putObj_heap_other (by omega)).trans (h3.block k hk)⟩, h4⟩
theorem Tryd.results14 : Tryd.f14.results = #[.tmp 4] := by kernel_rfl
def PostM (w : World) (base target : List Int) (e : Ending) (w' : World) : Prop := ∃ pre bg v, e = .returned v ∧ Cu base target pre bg target.length ∧ w'.ownsRow w.heap.size 5 1 v (mk base target pre bg).length ((mk base target pre bg).map (Value.int .u8)) ∧ Below w.heap.size w w'
set_option maxRecDepth 100000 in
set_option maxHeartbeats 4000000 in
theorem make_any (ab at_ : Option Addr) (cb ct : Nat) (base target : List Int) (w : World) (hzb : IsB base) (hzt : IsB target) (hlb : base.length ≤ 100000) (hlt : target.length ≤ 100000) (hSb : Sl w ab cb base) (hSt : Sl w at_ ct target)
    (fab : ∀ p : Addr, ab = some p → p.block < w.heap.size) (fat : ∀ p : Addr, at_ = some p → p.block < w.heap.size) :
    Calls Tryd.prog 14 #[.slice ab base.length cb, .slice at_ target.length ct] w (PostM w base target) := by
  obtain ⟨i5, hi, hz0, hz1, hz2⟩ := info_parts Tryd.infoB
  obtain ⟨L0, HL0⟩ : ∃ L0, Hid (L0 = base.length) := ⟨_, rfl⟩
  obtain ⟨T0, HT0⟩ : ∃ T0, Hid (T0 = target.length) := ⟨_, rfl⟩
  have hL0 : L0 ≤ 100000 := by rw [HL0.out]; exact hlb
  have hT0 : T0 ≤ 100000 := by rw [HT0.out]; exact hlt
  have hL0I : ¬ (100000 : Int) < L0 := by omega
  have hT0I : ¬ (100000 : Int) < T0 := by omega
  have A1 := appendSize_any w.heap.size (.slice none 0 0) [] L0 w (by omega) (by simp) (Nat.le_refl _) (World.ownsRow_nil _ _ _ _)
  rw [List.nil_append] at A1
  rw [← HL0.out, ← HT0.out]
  obtain ⟨B, HB⟩ : ∃ B, Hid (B = w.heap.size) := ⟨_, rfl⟩
  rw [← HB.out] at A1
  have hsl0 : (szw L0).length ≤ 3 := szw_len (by omega)
  have hsl1 : (szw T0).length ≤ 3 := szw_len (by omega)
  refine (callsIn_wide (n := 3)).1 ?_
  refine callsIn_of_wp_marks Tryd.func14 rfl trivial ?_ rfl
  simp only [Tryd.ntmps14, List.size_toArray, List.length_cons, List.length_nil, Nat.reduceAdd, Nat.reduceSub, Array.replicate_succ, Array.replicate_zero, List.push_toArray, List.append_toArray, List.nil_append, List.cons_append]
  gi_wp2_with (refine ⟨trivial, ?_⟩; gi_at_call 20; refine (callsIn_wide.2 A1).mono ?_; clear A1; rintro ev w1 ⟨v1, rfl, ho1, hm1⟩; obtain ⟨a1, c1, rfl⟩ := owns_shape ho1; have HO1 : Hid (w1.ownsRow B 5 1 (.slice a1 (szw L0).length c1) (szw L0).length ((szw L0).map (Value.int .u8))) := ho1; have HM1 : Hid (Mv w w1 (.slice none 0 0) (.slice a1 (szw L0).length c1)) := hm1; clear ho1 hm1)
  refine ⟨trivial, ?_⟩
  have hBw1 : B ≤ w1.heap.size := by rw [HB.out]; exact HM1.out.size
  refine (callsIn_wide.2 (appendSize_any B (.slice a1 (szw L0).length c1) (szw L0) T0 (w1.alloc (.cells #[.slice a1 (szw L0).length c1] 22)) (by omega) (by omega) (by simp; omega) (HO1.out.alloc _))).mono ?_
  rintro ev w2 ⟨v2, rfl, ho2, hm2⟩
  obtain ⟨hd, HHD⟩ : ∃ hd, Hid (hd = szw L0 ++ szw T0) := ⟨_, rfl⟩
  rw [← HHD.out] at ho2
  have hhd : hd.length ≤ 6 := by rw [HHD.out, List.length_append]; omega
  obtain ⟨a2, c2, rfl⟩ := owns_shape ho2
  obtain ⟨X, HX⟩ : ∃ X, Hid (X = w1.heap.size) := ⟨_, rfl⟩
  have b0 : Boxed (w1.alloc (.cells #[.slice a1 (szw L0).length c1] 22)) X 22 (.slice a1 (szw L0).length c1) := by rw [HX.out]; exact Boxed.new w1 22 _
  have hXr : some X ≠ (Value.slice a1 (szw L0).length c1).ownBlock := fun e => by have := (HO1.out.lt X e.symm).2; rw [HX.out] at this; omega
  have b1 : Boxed w2 X 22 (.slice a1 (szw L0).length c1) := (hm2.blk X b0.lt hXr).trans b0
  have k1 := b1.cell
  have f1 := b1.frozen
  have hXr2 : some X ≠ (Value.slice a2 hd.length c2).ownBlock := b1.not_row (by decide) ho2
  have HB3 : Hid (Boxed (w2.setCell ⟨X, 0, none⟩ (.slice a2 hd.length c2)) X 22 (.slice a2 hd.length c2)) := b1.set _
  have HO3 : Hid ((w2.setCell ⟨X, 0, none⟩ (.slice a2 hd.length c2)).ownsRow B 5 1 (.slice a2 hd.length c2) hd.length (hd.map (Value.int .u8))) := ho2.kept (grownBy_setCell' _ _ _) (.inr (Ne.symm hXr2))
  have HBE3 : Hid (Below B w (w2.setCell ⟨X, 0, none⟩ (.slice a2 hd.length c2))) := by
    have e1 : Below B w w1 := HM1.out.below (fun k hk => by cases hk) (by rw [HB.out]; exact Nat.le_refl _)
    have e2 : Below B w (w1.alloc (.cells #[.slice a1 (szw L0).length c1] 22)) := e1.alloc hBw1 _
    have e3 : Below B (w1.alloc (.cells #[.slice a1 (szw L0).length c1] 22)) w2 := hm2.below (fun k hk => (HO1.out.lt k hk).1) (by simp; omega)
    exact (e2.trans e3).setCell (by show B ≤ X; rw [HX.out]; exact hBw1) _
  have hXw : X < w2.heap.size := b1.lt
  have hBX : B ≤ X := by rw [HX.out]; exact hBw1
  rw [← HX.out]
  clear ho2 hm2 b0 b1 HO1 HM1
  gi_wp2_with (refine ⟨trivial, ?_⟩; gi_at_call 21; refine (cut_in _ _ _ _ _ _ _ _).mono ?_; rintro ev w4 ⟨rfl, rfl⟩)
  clear k1 f1
  obtain ⟨w3, HW3⟩ : ∃ w3, Hid (w2.setCell ⟨X, 0, none⟩ (.slice a2 hd.length c2) = w3) := ⟨_, rfl⟩
  have hs3 : w2.heap.size = w3.heap.size := by rw [← HW3.out]; simp [World.setCell]
  rw [HW3.out] at HB3 HO3 HBE3 ⊢
  rw [hs3] at hXw ⊢
  clear hs3
  obtain ⟨Y, HY⟩ : ∃ Y, Hid (Y = w3.heap.size) := ⟨_, rfl⟩
  obtain ⟨WL, HWL⟩ : ∃ WL, Hid ((w3.alloc (.cells #[.slice ab L0 cb] 22)).alloc (.cells #[.slice at_ T0 ct] 22) = WL) := ⟨_, rfl⟩
  have hgw : w3.grownBy WL none := by rw [← HWL.out]; exact (hg_alloc w3 _).trans (hg_alloc _ _)
  have hsz : WL.heap.size = Y + 2 := by rw [← HWL.out, HY.out]; simp
  have bX : Boxed WL X 22 (.slice a2 hd.length c2) := Boxed.kept HB3.out hgw (by simp)
  have bB : Boxed WL Y 22 (.slice ab L0 cb) := by rw [← HWL.out, HY.out]; exact (Boxed.new w3 22 _).alloc _
  have bT : Boxed WL (Y + 1) 22 (.slice at_ T0 ct) := by
    rw [← HWL.out, HY.out]
    have := Boxed.new (w3.alloc (.cells #[.slice ab L0 cb] 22)) 22 (.slice at_ T0 ct)
    rwa [World.size_alloc] at this
  have oX : WL.ownsRow B 5 1 (.slice a2 hd.length c2) hd.length (hd.map (Value.int .u8)) := HO3.out.kept hgw (by cases e : (Value.slice a2 hd.length c2).ownBlock <;> simp)
  have hXY : X < Y := by rw [HY.out]; exact hXw
  have hrow : ∀ k, (Value.slice a2 hd.length c2).ownBlock = some k → B ≤ k ∧ k < Y := fun k hk => by rw [HY.out]; exact HO3.out.lt k hk
  have hob : ∀ k, Ob X WL k → B ≤ k ∧ k < Y := fun k ⟨u, h1, h2⟩ => by rw [bX.cell] at h1; cases h1; exact hrow k h2
  have hBE : Below B w WL := HBE3.out.grown hgw (by have := HBE3.out.size; rw [HB.out]; exact this) (fun k e => by cases e)
  have hI0 : MkI w X B hd [] WL := ⟨_, bX, by simpa [stps] using oX, hBE, by simp [stps]⟩
  have hBl : Below w.heap.size w WL := by rw [← HB.out]; exact hBE
  have hBLt : w.heap.size = B := HB.out.symm
  have frW : ∀ k, k < w.heap.size → Fre X WL k := fun k hk => ⟨by omega, by omega, fun ho => by have := (hob k ho).1; omega⟩
  have frN : ∀ k, Y ≤ k → k < Y + 2 → Fre X WL k := fun k h1 h2 => ⟨by omega, by omega, fun ho => by have := (hob k ho).2; omega⟩
  have hzb' := hzb
  rw [← HY.out, HWL.out]
  have CA := cut1_all 2 (by omega) WL X Y (Y + 1) ab at_ cb ct base target (hSb.below hBl) (hSt.below hBl) hzb hzt hlb hlt (by rw [← HL0.out]; exact bB) (by rw [← HT0.out]; exact bT) (by omega) (fun k ho => by have := (hob k ho).2; omega)
    (frN Y (by omega) (by omega)) (frN (Y + 1) (by omega) (by omega)) (fun p hp => frW _ (fab p hp)) (fun p hp => frW _ (fat p hp))
  refine range_all (F := Fence.wide) (n := 3) rfl (by omega) (gf := 30) (lb := #[.pointer (some ⟨Y, 0, none⟩), .pointer (some ⟨Y + 1, 0, none⟩)]) rfl trivial (enters_of Tryd.func30 (by kernel_rfl) rfl) CA
    (fun _ => rfl) Kx.trans (fun l W r r' hl _ => Kx.loop (r := r) (by omega)) (fun l W r r' x hl hr hf => ⟨sl_put hf.1 _ hr, sl_put hf.2.1 _ hr, fun p hp => (hf.2.2.1 p hp).kx (Kx.loop (l := l) (r := r) (r' := r') (by omega)), fun p hp => (hf.2.2.2.1 p hp).kx (Kx.loop (l := l) (r := r) (r' := r') (by omega)), hf.2.2.2.2⟩)
    (MkI w X B hd) (fun s A C h hg => MkI.grow HB.out s A C h hg) (fun s l W r r' hl hr h => MkI.put (n := WL.heap.size) (by omega) (by omega) s l W r r' hl hr h) hI0
    (fun x => { tmps := #[.slice ab L0 cb, .slice at_ T0 ct, undef, undef, .slice none 0 0, .pointer (some ⟨X, 0, none⟩), .slice x.ao x.o.length x.co, .slice x.ac x.k.length x.cc, .slice ab L0 cb, .int .i64 L0, .bool false, .bool false, .slice at_ T0 ct, .int .i64 T0, .bool false, .bool false, .slice ab L0 cb, .int .i64 L0, .slice a1 (szw L0).length c1, .slice a1 (szw L0).length c1, .slice at_ T0 ct, .int .i64 T0, .slice a2 hd.length c2, .slice ab L0 cb, .slice at_ T0 ct, .func (.func 30) #[] #[.pointer (some ⟨Y, 0, none⟩), .pointer (some ⟨Y + 1, 0, none⟩)], .slice x.ao x.o.length x.co, .slice x.ac x.k.length x.cc, undef, undef, undef, undef, undef, undef, undef], defers := [] }) ?assign ?body ?done
  case assign =>
    intro l x W K hK
    dsimp only [Cx.enc]
    gi_wp2
    exact hK
  case body =>
    rintro l pre ⟨ao, co, o, ac, cc, k⟩ W hlX hlW ⟨u, b1, o1, m1, n1⟩ ⟨slo, slk, fro, frk, hol, hkl, hzo, hkn⟩ hlen
    dsimp only at slo slk fro frk hol hkl hzo hkn
    have hlX' : Y + 2 ≤ l := by omega
    obtain ⟨S, HS⟩ : ∃ S, Hid (S = hd ++ stps (pre.map Cx.pr)) := ⟨_, rfl⟩
    rw [← HS.out] at o1
    have hSl : S.length ≤ 20000000000 := by
      rw [HS.out, List.length_append]
      have hp : pre.length ≤ 100000 := by omega
      have : 101000 * pre.length ≤ 101000 * 100000 := Nat.mul_le_mul_left _ hp
      omega
    have hXne : some X ≠ u.ownBlock := b1.not_row (by decide) o1
    have AO : Calls Tryd.prog 22 #[u, .slice ao o.length co] W (PostO W B u (S ++ own o)) :=
      appendOwn_any B u S ao co o W hzo (by omega) (by omega) (by have := m1.size; omega) o1 slo (fun p hp => ⟨(fro p hp).lt, fun e => (fro p hp).no ⟨_, b1.cell, e.symm⟩⟩)
    have hownl : (own o).length ≤ 100800 := by rw [own_len _ _ rfl]; omega
    have HE1 : Hid (stps ((pre ++ [(⟨ao, co, o, ac, cc, k⟩ : Cx)]).map Cx.pr) = stps (pre.map Cx.pr) ++ (own o ++ k)) := by show _ = _; rw [List.map_append, List.map_singleton, stps_snoc]; rfl
    have HNL : Hid ((stps ((pre ++ [(⟨ao, co, o, ac, cc, k⟩ : Cx)]).map Cx.pr)).length ≤ 101000 * (pre ++ [(⟨ao, co, o, ac, cc, k⟩ : Cx)]).length) := by
      show _ ≤ _
      rw [HE1.out, List.length_append, List.length_append, List.length_append]
      simp only [List.length_cons, List.length_nil]
      omega
    obtain ⟨ua, uc, rfl⟩ := owns_shape o1
    have k0 := b1.cell
    have f0 := b1.frozen
    have HO1 : Hid (W.ownsRow B 5 1 (.slice ua S.length uc) S.length (S.map (Value.int .u8))) := o1
    have HB1 : Hid (Boxed W X 22 (.slice ua S.length uc)) := b1
    have HBe : Hid (Below B w W) := m1
    have hXW : X < W.heap.size := b1.lt
    clear hsz o1 b1 m1 n1
    obtain ⟨N, HN⟩ : ∃ N, Hid (N = S.length) := ⟨_, rfl⟩
    rw [← HN.out] at k0 HO1 HB1 AO hXne
    obtain ⟨OL, HOL⟩ : ∃ OL, Hid (OL = o.length) := ⟨_, rfl⟩
    rw [← HOL.out] at AO
    obtain ⟨N5, HN5⟩ : ∃ N5, Hid (N5 = (S ++ own o).length) := ⟨_, rfl⟩
    have hN5 : N5 ≤ 30000000000 := by rw [HN5.out, List.length_append]; omega
    obtain ⟨L5, HL5⟩ : ∃ L5, Hid (L5 = (S ++ own o).map (Value.int .u8)) := ⟨_, rfl⟩
    have hBW : B ≤ W.heap.size := by rw [HB.out]; exact HBe.out.size
    have hNS : hd ++ stps ((pre ++ [(⟨ao, co, o, ac, cc, k⟩ : Cx)]).map Cx.pr) = (S ++ own o) ++ k := by rw [HE1.out, HS.out]; simp
    have HFIN : Hid (∀ (w' : World) (u1 : Value), KeepsFrom WL.heap.size W w' → Kx X l W w' → Boxed w' X 22 u1 → w'.ownsRow B 5 1 u1 (N5 + k.length) (L5 ++ k.map (Value.int .u8)) → Below B w w' → KeepsFrom WL.heap.size W w' ∧ Kx X l W w' ∧ MkI w X B hd (pre ++ [(⟨ao, co, o, ac, cc, k⟩ : Cx)]) w') := fun w' u1 q1 q2 q3 q4 q5 =>
      ⟨q1, q2, u1, q3, by rw [hNS, List.map_append, List.length_append, ← HN5.out, ← HL5.out]; exact q4, q5, HNL.out⟩
    clear hNS HNL HE1
    obtain ⟨M, HMM⟩ : ∃ M, Hid (M = k.length) := ⟨_, rfl⟩
    have hM : M ≤ 7 := by rw [HMM.out]; exact hkl
    by_cases hk0 : k = []
    · obtain ⟨rfl, rfl⟩ := hkn hk0
      subst hk0
      have hM0 : M = 0 := by rw [HMM.out]; rfl
      subst hM0
      simp only [← HOL.out, ← HMM.out]
      gi_wp2_with (first
        | (refine ⟨trivial, ?_⟩; gi_at_call 22; refine (CallsIn.inRound l (callsIn_wide.2 AO)).mono ?_; clear AO; rintro ev w5 ⟨v5, rfl, ho5, hm5⟩; rw [← HN5.out, ← HL5.out] at ho5; obtain ⟨a5, c5, rfl⟩ := owns_shape ho5; have HM5 : Hid (Mv W w5 (.slice ua N uc) (.slice a5 N5 c5)) := hm5; have HO5 : Hid (w5.ownsRow B 5 1 (.slice a5 N5 c5) N5 L5) := ho5; have b5 : Boxed w5 X 22 (.slice ua N uc) := (hm5.blk X hXW hXne).trans HB1.out; have k5 := b5.cell; have f5 := b5.frozen; have HB5 : Hid (Boxed w5 X 22 (.slice ua N uc)) := b5; clear ho5 hm5 b5)
        | (gi_at_builtin; refine wpListIn_append_nil rfl _ _ 22 rfl B 5 i5 1 Tryd.underlying22 hi _ N5 L5 rfl (HO5.out.kept (grownBy_setCell' _ _ _) (.inr (Ne.symm (HB5.out.not_row (by decide) HO5.out)))) rfl ?_))
      have K1 := keeps_mv HB1.out HO1.out HM5.out WL.heap.size
      have hS5 : some X ≠ (Value.slice a5 N5 c5).ownBlock := Boxed.not_row HB5.out (by decide) HO5.out
      have X1 : Kx X l W (w5.setCell ⟨X, 0, none⟩ (.slice a5 N5 c5)) := Kx.mv HB1.out HM5.out hXne (fun k hk => (HO5.out.lt k hk).2)
      have B2 : Boxed (w5.setCell ⟨X, 0, none⟩ (.slice a5 N5 c5)) X 22 (.slice a5 N5 c5) := Boxed.set _ HB5.out
      have HOS : (w5.setCell ⟨X, 0, none⟩ (.slice a5 N5 c5)).ownsRow B 5 1 (.slice a5 N5 c5) N5 L5 := HO5.out.kept (grownBy_setCell' _ _ _) (.inr (Ne.symm hS5))
      have K2 := keeps_mv B2 HOS (Mv.refl _ _) WL.heap.size
      have X2 : Kx X l (w5.setCell ⟨X, 0, none⟩ (.slice a5 N5 c5)) ((w5.setCell ⟨X, 0, none⟩ (.slice a5 N5 c5)).setCell ⟨X, 0, none⟩ (.slice a5 N5 c5)) := Kx.mv B2 (Mv.refl _ _) hS5 (fun k hk => (HOS.lt k hk).2)
      have E1 : Below B W (w5.setCell ⟨X, 0, none⟩ (.slice a5 N5 c5)) := (HM5.out.below (fun k hk => (HO1.out.lt k hk).1) hBW).setCell hBX _
      have E2 := E1.setCell (p := ⟨X, 0, none⟩) hBX (.slice a5 N5 c5)
      refine HFIN.out _ _ (K1.trans K2) (X1.trans X2) (Boxed.set _ B2) ?_ (HBe.out.trans E2)
      have h0 := HOS.kept (grownBy_setCell' (w5.setCell ⟨X, 0, none⟩ (.slice a5 N5 c5)) X (.slice a5 N5 c5)) (.inr (Ne.symm hS5))
      simpa using h0
    · have hk1 : 0 < k.length := List.length_pos_iff.2 hk0
      have hM0 : 0 < M := by rw [HMM.out]; exact hk1
      obtain ⟨b, off, rfl, hb, hat⟩ := slk.at_ hk1
      have fr := frk _ rfl
      have HAT : Hid (∀ j z, (k.map (Value.int .u8))[j]? = some z → W.cell? ((⟨b, off, none⟩ : Addr).add j) = some z) := fun j z hj => by
        rw [List.getElem?_map] at hj
        cases hc : k[j]? with
        | none => rw [hc] at hj; cases hj
        | some y =>
          rw [hc] at hj; cases hj
          have hlt := (List.getElem?_eq_some_iff.1 hc).1
          have := hat j hlt
          rw [addr_add]
          simpa [List.getD_eq_getElem?_getD, hc] using this
      have HBN : Hid (b ≠ X ∧ some b ≠ (Value.slice ua N uc).ownBlock) := ⟨fr.ne, fun e => fr.no ⟨_, HB1.out.cell, e.symm⟩⟩
      have HBL : Hid (b < W.heap.size) := hb
      clear hat slk fr frk hb
      simp only [← HOL.out, ← HMM.out]
      gi_wp2_with (first
        | (refine ⟨trivial, ?_⟩; gi_at_call 22; refine (CallsIn.inRound l (callsIn_wide.2 AO)).mono ?_; clear AO; rintro ev w5 ⟨v5, rfl, ho5, hm5⟩; rw [← HN5.out, ← HL5.out] at ho5; obtain ⟨a5, c5, rfl⟩ := owns_shape ho5; have HM5 : Hid (Mv W w5 (.slice ua N uc) (.slice a5 N5 c5)) := hm5; have HO5 : Hid (w5.ownsRow B 5 1 (.slice a5 N5 c5) N5 L5) := ho5; have b5 : Boxed w5 X 22 (.slice ua N uc) := (hm5.blk X hXW hXne).trans HB1.out; have k5 := b5.cell; have f5 := b5.frozen; have HB5 : Hid (Boxed w5 X 22 (.slice ua N uc)) := b5; clear ho5 hm5 b5)
        | (gi_at_builtin; refine wpListIn_append_own_at _ rfl _ _ 22 rfl B 5 i5 (.int .u8 0) 1 1 Tryd.underlying22 hi hz0 hz1 hz2 rfl (by decide) _ N5 L5 rfl (HO5.out.kept (grownBy_setCell' _ _ _) (.inr (Ne.symm (HB5.out.not_row (by decide) HO5.out)))) ⟨b, off, none⟩ M cc (k.map (Value.int .u8)) rfl (by rw [HMM.out]; simp) (ao_src HAT.out HBN.out.1 HBN.out.2 HBL.out HM5.out) (ints_oneCell .u8 k) (by unfold maxLen; omega) (by omega) (by simp [World.setCell]; have := HM5.out.size; omega) ?_; intro v2 w2 ho2 hg2 hn2 hl2; obtain ⟨a6, c6, rfl⟩ := owns_shape ho2; have HV2 : Hid (Mv (w5.setCell ⟨X, 0, none⟩ (.slice a5 N5 c5)) w2 (.slice a5 N5 c5) (.slice a6 (N5 + M : Nat) c6)) := Mv.app (grown_refl _) hg2 hl2; have HW2 : Hid (w2.ownsRow B 5 1 (.slice a6 (N5 + M : Nat) c6) (N5 + M) (L5 ++ k.map (Value.int .u8))) := ho2; have B2 : Boxed (w5.setCell ⟨X, 0, none⟩ (.slice a5 N5 c5)) X 22 (.slice a5 N5 c5) := Boxed.set _ HB5.out; have HS2 : Hid (some X ≠ (Value.slice a5 N5 c5).ownBlock) := Boxed.not_row HB5.out (by decide) HO5.out; have B3 : Boxed w2 X 22 (.slice a5 N5 c5) := (HV2.out.blk X B2.lt HS2.out).trans B2; have k2 := B3.cell; have f2 := B3.frozen; have HB3 : Hid (Boxed w2 X 22 (.slice a5 N5 c5)) := B3; have HB2' : Hid (Boxed (w5.setCell ⟨X, 0, none⟩ (.slice a5 N5 c5)) X 22 (.slice a5 N5 c5)) := B2; clear ho2 hg2 hn2 hl2 B3 B2))
      have K1 := keeps_mv HB1.out HO1.out HM5.out WL.heap.size
      have HOS : (w5.setCell ⟨X, 0, none⟩ (.slice a5 N5 c5)).ownsRow B 5 1 (.slice a5 N5 c5) N5 L5 := HO5.out.kept (grownBy_setCell' _ _ _) (.inr (Ne.symm HS2.out))
      have K2 := keeps_mv HB2'.out HOS HV2.out WL.heap.size
      have X1 : Kx X l W (w5.setCell ⟨X, 0, none⟩ (.slice a5 N5 c5)) := Kx.mv HB1.out HM5.out hXne (fun k hk => (HO5.out.lt k hk).2)
      have X2 : Kx X l (w5.setCell ⟨X, 0, none⟩ (.slice a5 N5 c5)) (w2.setCell ⟨X, 0, none⟩ (.slice a6 (N5 + M : Nat) c6)) := Kx.mv HB2'.out HV2.out HS2.out (fun k hk => (HW2.out.lt k hk).2)
      have hS3 : some X ≠ (Value.slice a6 (N5 + M : Nat) c6).ownBlock := Boxed.not_row HB3.out (by decide) HW2.out
      have E1 : Below B W (w5.setCell ⟨X, 0, none⟩ (.slice a5 N5 c5)) := (HM5.out.below (fun k hk => (HO1.out.lt k hk).1) hBW).setCell hBX _
      have E2 : Below B (w5.setCell ⟨X, 0, none⟩ (.slice a5 N5 c5)) (w2.setCell ⟨X, 0, none⟩ (.slice a6 (N5 + M : Nat) c6)) := (HV2.out.below (fun k hk => (HO5.out.lt k hk).1) (by have := E1.size; omega)).setCell hBX _
      refine HFIN.out _ _ (K1.trans K2) (X1.trans X2) (Boxed.set _ HB3.out) ?_ ((HBe.out.trans E1).trans E2)
      rw [← HMM.out]
      exact HW2.out.kept (grownBy_setCell' w2 X (.slice a6 (N5 + M : Nat) c6)) (.inr (Ne.symm hS3))
  case done =>
    rintro D xs W hD ⟨pre, bg, hCu, hxs⟩ ⟨u, b1, o1, m1, n1⟩ hK
    have hE : hd ++ stps (xs.map Cx.pr) = mk base target pre bg := by
      rw [hxs, stps_snoc, HHD.out, HL0.out, HT0.out]
      unfold mk
      simp only [List.append_assoc, List.append_nil]
    rw [hE] at o1
    obtain ⟨ua, uc, rfl⟩ := owns_shape o1
    obtain ⟨N, HN⟩ : ∃ N, Hid (N = (mk base target pre bg).length) := ⟨_, rfl⟩
    rw [← HN.out] at o1 b1
    have k0 := b1.cell
    have HK : Hid (W.heap[D]? = some (.deferred (some []))) := hK
    have hwD : B ≤ D := by omega
    have HCU : Hid _ := hCu
    clear n1 hE hxs
    gi_wp2
    refine ret_1 Tryd.results14 _ _ D (.slice ua N uc) rfl HK.out _ ⟨pre, bg, _, rfl, HCU.out, ?_, ?_⟩
    · rw [← HN.out, ← HB.out]
      exact ownsRow_putObj o1 _ HK.out rfl
    · rw [← HB.out]
      exact ⟨m1.os, m1.tape, m1.output, by rw [World.putObj_size]; exact m1.size, fun k hk => (World.putObj_heap_other (by omega)).trans (m1.block k hk)⟩
end Go.Proofs.YtblegkefeiefjaaDoor
