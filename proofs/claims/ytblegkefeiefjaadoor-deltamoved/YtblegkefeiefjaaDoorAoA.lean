/- 'appendOwn'. -/
import Derived.Test.YtblegkefeiefjaaDoorRgB
import Derived.Maps.OwnIn
namespace Go.Proofs.YtblegkefeiefjaaDoor
open Go.RowKit Go.Shelf Go.Maps Plain
set_option linter.unusedVariables false
set_option linter.unusedSimpArgs false
attribute [local go_sem] Oper.semAt_some

theorem Mv.grow {A B : World} (v : Value) (h : A.grownBy B none) : Mv A B v v := ⟨h.os, h.tape, h.output, h.size, fun k hk _ => h.block k hk (by simp), .inl rfl⟩
theorem Mv.put {w W : World} {v u : Value} (h : Mv w W v u) {l : Nat} (o : Obj) (hl : w.heap.size ≤ l) : Mv w (W.putObj l o) v u :=
  ⟨h.os, h.tape, h.output, by rw [World.putObj_size]; exact h.size, fun k hk hn => (World.putObj_heap_other (by omega)).trans (h.blk k hk hn), h.at_⟩
theorem owns_cells {W : World} {B : Nat} {u : Value} {n : Nat} {xs : List Value} (h : W.ownsRow B 5 1 u n xs) {k : Nat} (hk : u.ownBlock = some k) : ∃ cur, W.heap[k]? = some (.cells cur 5 (0, 0)) := by
  obtain ⟨_, ⟨rfl, _⟩ | ⟨g, cap, cur, rfl, _, h2, _⟩⟩ := h
  · cases hk
  · simp [Value.ownBlock] at hk; subst hk; exact ⟨cur, h2⟩
/-- The variable's slice grows, and is stored: what is no memory of cells stays. -/
theorem keeps_mv {W W1 : World} {X : Nat} {u u1 : Value} {B n : Nat} {xs : List Value} (hb : Boxed W X 22 u) (ho : W.ownsRow B 5 1 u n xs) (h : Mv W W1 u u1) (Bx : Nat) : KeepsFrom Bx W (W1.setCell ⟨X, 0, none⟩ u1) := by
  refine ⟨by simp [World.setCell]; exact h.size, fun k o _ hk hc => ?_⟩
  have hkX : k ≠ X := fun e => by rw [e, show W.heap[X]? = _ from hb] at hk; cases hk; cases hc
  rw [Below.heap_setCell _ _ _ k hkX, h.blk k (Array.getElem?_eq_some_iff.1 hk).1 (fun e => ?_)]
  · exact hk
  · obtain ⟨cur, hcur⟩ := owns_cells ho e.symm
    rw [hcur] at hk; cases hk; cases hc
theorem Mv.store {w W1 : World} {v u1 : Value} (h : Mv w W1 v u1) {X : Nat} (hX : w.heap.size ≤ X) (y : Value) : Mv w (W1.setCell ⟨X, 0, none⟩ y) v u1 :=
  ⟨h.os, h.tape, h.output, by simp [World.setCell]; exact h.size, fun k hk hn => (Below.heap_setCell _ _ _ k (by show k ≠ X; omega)).trans (h.blk k hk hn), h.at_⟩
theorem sl_put {W : World} {a : Option Addr} {cap : Nat} {c : List Int} (h : Sl W a cap c) {l : Nat} {r : Loop} (o : Obj) (hl : W.heap[l]? = some (.loop r)) : Sl (W.putObj l o) a cap c :=
  ⟨h.capl, fun h0 => by
    obtain ⟨b, off, e1, e2, e3⟩ := h.at_ h0
    exact ⟨b, off, e1, by rw [World.putObj_size]; exact e2, fun i hi => cell_kept (e3 i hi) (grownBy_putObj' W l o) (fun r' e => by cases e; exact ⟨_, hl, rfl⟩)⟩, h.nil⟩
theorem chunk_in (n : Nat) (a1 : Option Addr) (n1 c1 : Nat) (w : World) :
    CallsIn Fence.wide n Tryd.prog 34 #[.slice a1 n1 c1, .int .i64 127] w fun e w' => e = .returned (.func (.func 41) #[] #[.pointer (some ⟨w.heap.size, 0, none⟩), .pointer (some ⟨w.heap.size + 1, 0, none⟩)]) ∧ w' = (w.alloc (.cells #[.slice a1 n1 c1] 22)).alloc (.cells #[.int .i64 127] 3) := by
  refine callsIn_of_wp Tryd.func34 rfl trivial ?_ rfl
  simp only [Tryd.ntmps34, List.size_toArray, List.length_cons, List.length_nil, Nat.reduceAdd, Nat.reduceSub, Array.replicate_succ, Array.replicate_zero, List.push_toArray, List.append_toArray, List.nil_append, List.cons_append]
  gi_wp2
  go_ret
  exact ⟨rfl, rfl⟩
/-- What the loop keeps. -/
def AoI (w : World) (X B : Nat) (v : Value) (out : List Int) (pre : List Ch) (W : World) : Prop :=
  ∃ u, Boxed W X 22 u ∧ W.ownsRow B 5 1 u (out ++ eo (pre.map (·.c))).length ((out ++ eo (pre.map (·.c))).map (Value.int .u8)) ∧ Mv w W v u ∧ (eo (pre.map (·.c))).length ≤ 128 * pre.length
theorem AoI.grow {w : World} {X B : Nat} {v : Value} {out : List Int} (s : List Ch) (A C : World) (h : AoI w X B v out s A) (hg : A.grownBy C none) : AoI w X B v out s C := by
  obtain ⟨u, h1, h2, h3, h4⟩ := h
  exact ⟨u, h1.kept hg (by simp), h2.kept hg (by cases e : u.ownBlock <;> simp), h3.trans (Mv.grow u hg), h4⟩
theorem AoI.put {w : World} {X B : Nat} {v : Value} {out : List Int} {n : Nat} (hX : X < n) (hw : w.heap.size ≤ n) (s : List Ch) (l : Nat) (W : World) (r r' : Loop) (hl : n ≤ l) (hr : W.heap[l]? = some (.loop r)) (h : AoI w X B v out s W) : AoI w X B v out s (W.putObj l (.loop r')) := by
  obtain ⟨u, h1, h2, h3, h4⟩ := h
  exact ⟨u, (World.putObj_heap_other (by omega)).trans h1, ownsRow_putObj h2 _ hr rfl, h3.put _ (by omega), h4⟩
theorem grown_refl (w : World) : w.grownBy w none := ⟨rfl, rfl, rfl, Nat.le_refl _, fun _ _ _ => rfl⟩
theorem ao_src {W w1 : World} {X b off : Nat} {u u1 y : Value} {l : List Value} (h : ∀ j z, l[j]? = some z → W.cell? ((⟨b, off, none⟩ : Addr).add j) = some z) (h1 : b ≠ X) (h2 : some b ≠ u.ownBlock) (h3 : b < W.heap.size) (hv : Mv W w1 u u1) :
    ∀ j z, l[j]? = some z → (w1.setCell ⟨X, 0, none⟩ y).cell? ((⟨b, off, none⟩ : Addr).add j) = some z := fun j z hj => by
  have := h j z hj
  rw [addr_add] at this ⊢
  rw [World.cell?_setCell_other _ _ _ _ (by intro e; simp only [Addr.mk.injEq] at e; exact h1 e.1.symm), ← this]
  exact World.cell?_of_block (a := ⟨b, off + j, none⟩) (hv.blk b h3 h2)
theorem Tryd.results22 : Tryd.f22.results = #[.tmp 4] := by kernel_rfl
theorem results_1 {fn : Func} {p : Tmp} (h : fn.results = #[.tmp p]) (tmps : Array Value) (w : World) (x : Value) (hp : tmps.getD p undef = x) : (results fn tmps).run Tryd.prog w = .ok x w := by
  have hp' : tmps[p]?.getD undef = x := by simpa using hp
  simp [results, h, hp']
theorem ret_1 {fn : Func} {p : Tmp} (h : fn.results = #[.tmp p]) (tmps : Array Value) (W : World) (D : Nat) (x : Value) (hp : tmps.getD p undef = x) (hK : W.heap[D]? = some (.deferred (some []))) (R : Ending → World → Prop) (hR : R (.returned x) (W.putObj D (.deferred none))) :
    bodyPostM Fence.wide 3 Tryd.prog fn R .ret { tmps := tmps, defers := [{ target := .collected D, args := #[] }] } W :=
  ⟨by simp, .inl ⟨_, _, rfl, run_takeDeferred hK, _, results_1 h _ _ _ hp, hR⟩⟩
set_option maxRecDepth 100000 in
set_option maxHeartbeats 4000000 in
theorem appendOwn_any (B : Nat) (v : Value) (out : List Int) (as_ : Option Addr) (cs : Nat) (s : List Int) (w : World) (hz : IsB s) (hl : s.length ≤ 400000) (ho : out.length ≤ 1000000000000) (hB : B ≤ w.heap.size) (hown : w.ownsRow B 5 1 v out.length (out.map (Value.int .u8))) (hS : Sl w as_ cs s)
    (fa : ∀ p : Addr, as_ = some p → p.block < w.heap.size ∧ some p.block ≠ v.ownBlock) :
    Calls Tryd.prog 22 #[v, .slice as_ s.length cs] w (PostO w B v (out ++ own s)) := by
  obtain ⟨i5, hi, hz0, hz1, hz2⟩ := info_parts Tryd.infoB
  obtain ⟨va, vc, rfl⟩ := owns_shape hown
  have HOW : Hid (w.ownsRow B 5 1 (.slice va out.length vc) out.length (out.map (Value.int .u8))) := hown
  have HSS : Hid _ := hS
  have HFA : Hid _ := fa
  clear hown hS fa
  refine (callsIn_wide (n := 3)).1 ?_
  refine callsIn_of_wp_marks Tryd.func22 rfl trivial ?_ rfl
  simp only [Tryd.ntmps22, List.size_toArray, List.length_cons, List.length_nil, Nat.reduceAdd, Nat.reduceSub, Array.replicate_succ, Array.replicate_zero, List.push_toArray, List.append_toArray, List.nil_append, List.cons_append]
  gi_wp2_with (refine ⟨trivial, ?_⟩; gi_at_call 34; refine (chunk_in _ _ _ _ _).mono ?_; rintro ev w2 ⟨rfl, rfl⟩)
  obtain ⟨X, HX⟩ : ∃ X, Hid (X = w.heap.size) := ⟨_, rfl⟩
  obtain ⟨WL, HWL⟩ : ∃ WL, Hid (((w.alloc (.cells #[.slice va out.length vc] 22)).alloc (.cells #[.slice as_ s.length cs] 22)).alloc (.cells #[.int .i64 127] 3) = WL) := ⟨_, rfl⟩
  have hgw : w.grownBy WL none := by rw [← HWL.out]; exact ((hg_alloc w _).trans (hg_alloc _ _)).trans (hg_alloc _ _)
  have hsz : WL.heap.size = X + 3 := by rw [← HWL.out, HX.out]; simp
  have bX : Boxed WL X 22 (.slice va out.length vc) := by rw [← HWL.out, HX.out]; exact ((Boxed.new w 22 _).alloc _).alloc _
  have bS : Boxed WL (X + 1) 22 (.slice as_ s.length cs) := by
    rw [← HWL.out, HX.out]
    have := (Boxed.new (w.alloc (.cells #[.slice va out.length vc] 22)) 22 (.slice as_ s.length cs)).alloc (.cells #[.int .i64 127] 3)
    rwa [World.size_alloc] at this
  have bN : Boxed WL (X + 1 + 1) 3 (.int .i64 127) := by
    rw [← HWL.out, HX.out]
    have := Boxed.new ((w.alloc (.cells #[.slice va out.length vc] 22)).alloc (.cells #[.slice as_ s.length cs] 22)) 3 (.int .i64 127)
    rwa [World.size_alloc, World.size_alloc] at this
  have hrow : ∀ k, (Value.slice va out.length vc).ownBlock = some k → k < X := fun k hk => by rw [HX.out]; exact (HOW.out.lt k hk).2
  have hno : ∀ k, X ≤ k → ¬ Ob X WL k := fun k hk ⟨u, h1, h2⟩ => by rw [bX.cell] at h1; cases h1; have := hrow k h2; omega
  have hI0 : AoI w X B (.slice va out.length vc) out [] WL := ⟨_, bX, by simpa [eo] using HOW.out.kept hgw (by cases e : (Value.slice va out.length vc).ownBlock <;> simp), Mv.grow _ hgw, by simp [eo]⟩
  have hSL : Sl WL as_ cs s := HSS.out.below ⟨hgw.os, hgw.tape, hgw.output, hgw.size, fun k hk => hgw.block k hk (by simp)⟩
  have hfa : ∀ p : Addr, as_ = some p → Fre X WL p.block := fun p hp => by
    obtain ⟨f1, f2⟩ := HFA.out p hp
    rw [← HX.out] at f1
    exact ⟨by omega, by omega, fun ⟨u, h1, h2⟩ => by rw [bX.cell] at h1; cases h1; exact f2 h2.symm⟩
  rw [HWL.out]
  rw [← HX.out]
  have hXw : w.heap.size ≤ X := by rw [HX.out]; exact Nat.le_refl _
  refine range_all (F := Fence.wide) (n := 3) rfl (by omega) (gf := 41) (lb := #[.pointer (some ⟨X + 1, 0, none⟩), .pointer (some ⟨X + 1 + 1, 0, none⟩)]) rfl trivial (enters_of Tryd.func41 (by kernel_rfl) rfl)
    (chunk1_all 2 (by omega) WL X (X + 1) (X + 1 + 1) as_ cs s hSL hz hl bS bN (by omega) ⟨by omega, by omega, hno _ (by omega)⟩ ⟨by omega, by omega, hno _ (by omega)⟩ hfa)
    (fun _ => rfl) Kx.trans (fun l W r r' hl _ => Kx.loop (r := r) (by omega)) (fun l W r r' x hl hr hf => ⟨sl_put hf.1 _ hr, hf.2.1, hf.2.2.1, fun p hp => (hf.2.2.2 p hp).kx (Kx.loop (l := l) (r := r) (r' := r') (by omega))⟩)
    (AoI w X B (.slice va out.length vc) out) (fun s A C h hg => AoI.grow s A C h hg) (fun s l W r r' hl hr h => AoI.put (n := WL.heap.size) (by omega) (by omega) s l W r r' hl hr h) hI0
    (fun x => { tmps := #[.slice va out.length vc, .slice as_ s.length cs, .pointer (some ⟨X, 0, none⟩), undef, .slice none 0 0, .slice x.ad x.c.length x.cap, .slice as_ s.length cs, .func (.func 41) #[] #[.pointer (some ⟨X + 1, 0, none⟩), .pointer (some ⟨X + 1 + 1, 0, none⟩)], .slice x.ad x.c.length x.cap, undef, undef, undef, undef, undef, undef, undef, undef, undef, undef], defers := [] }) ?assign ?body ?done
  case assign =>
    intro l x W K hK
    dsimp only [Ch.enc]
    gi_wp2
    exact hK
  case body =>
    rintro l pre ⟨ad, cap, c⟩ W hlX hlW ⟨u, b1, o1, m1, n1⟩ ⟨sl, h0, h127, hfr⟩ hlen
    dsimp only at sl h0 h127 hfr
    have hlX' : X + 3 ≤ l := by omega
    clear hsz
    obtain ⟨b, off, rfl, hb, hat⟩ := sl.at_ h0
    have fr := hfr _ rfl
    obtain ⟨N, HN⟩ : ∃ N, Hid (N = (out ++ eo (pre.map (·.c))).length) := ⟨_, rfl⟩
    obtain ⟨L, HL⟩ : ∃ L, Hid (L = (out ++ eo (pre.map (·.c))).map (Value.int .u8)) := ⟨_, rfl⟩
    rw [← HN.out, ← HL.out] at o1
    have hN : N ≤ 2000000000000 := by rw [HN.out, List.length_append]; omega
    obtain ⟨ua, uc, rfl⟩ := owns_shape o1
    obtain ⟨M, HMM⟩ : ∃ M, Hid (M = c.length) := ⟨_, rfl⟩
    have hM : M ≤ 127 := by rw [HMM.out]; exact h127
    have hM0 : 0 < M := by rw [HMM.out]; exact h0
    have hXne : some X ≠ (Value.slice ua N uc).ownBlock := b1.not_row (by decide) o1
    have k0 := b1.cell
    have f0 := b1.frozen
    have hBW : B ≤ W.heap.size := by have := m1.size; omega
    have HO1 : Hid (W.ownsRow B 5 1 (.slice ua N uc) N L) := o1
    have HB1 : Hid (Boxed W X 22 (.slice ua N uc)) := b1
    have HM1 : Hid (Mv w W (.slice va out.length vc) (.slice ua N uc)) := m1
    have HAT : Hid (∀ j z, (c.map (Value.int .u8))[j]? = some z → W.cell? ((⟨b, off, none⟩ : Addr).add j) = some z) := fun j z hj => by
      rw [List.getElem?_map] at hj
      cases hc : c[j]? with
      | none => rw [hc] at hj; cases hj
      | some y =>
        rw [hc] at hj; cases hj
        have hlt := (List.getElem?_eq_some_iff.1 hc).1
        have := hat j hlt
        rw [addr_add]
        simpa [List.getD_eq_getElem?_getD, hc] using this
    have HBN : Hid (b ≠ X ∧ some b ≠ (Value.slice ua N uc).ownBlock) := ⟨fr.ne, fun e => fr.no ⟨_, b1.cell, e.symm⟩⟩
    have HBL : Hid (b < W.heap.size) := hb
    have hw8 : (M : Int) % 256 = M := by omega
    have tok1 : True := trivial
    simp only [← HMM.out]
    clear o1 b1 m1 hat sl fr hfr hb
    gi_wp2_with (first
      | (gi_at_builtin; have _t := tok1; refine wpListIn_append_own_at _ rfl _ _ 22 rfl B 5 i5 (.int .u8 0) 1 1 Tryd.underlying22 hi hz0 hz1 hz2 rfl (by decide) _ N L rfl (HO1.out.alloc _) ⟨W.heap.size, 0, none⟩ 1 1 [.int .u8 M] rfl rfl (cell_one_new _ _ _) (ints_oneCell .u8 [(M : Int)]) (by unfold maxLen; omega) (by omega) (by simp; omega) ?_; intro v1 w1 ho1 hg1 hn1 hl1; obtain ⟨a1, c1, rfl⟩ := owns_shape ho1; have HV1 : Hid (Mv W w1 (.slice ua N uc) (.slice a1 (N + 1 : Nat) c1)) := Mv.app (hg_alloc W _) hg1 hl1; have HW1 : Hid (w1.ownsRow B 5 1 (.slice a1 (N + 1 : Nat) c1) (N + 1) (L ++ [.int .u8 M])) := ho1; have B1 : Boxed w1 X 22 (.slice ua N uc) := (HV1.out.blk X (by omega) hXne).trans HB1.out; have k1 := B1.cell; have f1 := B1.frozen; have HB2 : Hid (Boxed w1 X 22 (.slice ua N uc)) := B1; clear ho1 hg1 hn1 hl1 tok1 B1)
      | (gi_at_builtin; refine wpListIn_append_own_at _ rfl _ _ 22 rfl B 5 i5 (.int .u8 0) 1 1 Tryd.underlying22 hi hz0 hz1 hz2 rfl (by decide) _ (N + 1) (L ++ [.int .u8 M]) rfl (HW1.out.kept (grownBy_setCell' _ _ _) (.inr (Ne.symm (HB2.out.not_row (by decide) HW1.out)))) ⟨b, off, none⟩ M cap (c.map (Value.int .u8)) rfl (by rw [HMM.out]; simp) (ao_src HAT.out HBN.out.1 HBN.out.2 HBL.out HV1.out) (ints_oneCell .u8 c) (by unfold maxLen; omega) (by omega) (by simp [World.setCell]; have := HV1.out.size; omega) ?_; intro v2 w2 ho2 hg2 hn2 hl2; obtain ⟨a2, c2, rfl⟩ := owns_shape ho2; have HV2 : Hid (Mv (w1.setCell ⟨X, 0, none⟩ (.slice a1 (N + 1 : Nat) c1)) w2 (.slice a1 (N + 1 : Nat) c1) (.slice a2 (N + 1 + M : Nat) c2)) := Mv.app (grown_refl _) hg2 hl2; have HW2 : Hid (w2.ownsRow B 5 1 (.slice a2 (N + 1 + M : Nat) c2) (N + 1 + M) (L ++ [.int .u8 M] ++ c.map (Value.int .u8))) := ho2; have B2 : Boxed (w1.setCell ⟨X, 0, none⟩ (.slice a1 (N + 1 : Nat) c1)) X 22 (.slice a1 (N + 1 : Nat) c1) := Boxed.set _ HB2.out; have HS2 : Hid (some X ≠ (Value.slice a1 (N + 1 : Nat) c1).ownBlock) := Boxed.not_row HB2.out (by decide) HW1.out; have B3 : Boxed w2 X 22 (.slice a1 (N + 1 : Nat) c1) := (HV2.out.blk X B2.lt HS2.out).trans B2; have k2 := B3.cell; have f2 := B3.frozen; have HB3 : Hid (Boxed w2 X 22 (.slice a1 (N + 1 : Nat) c1)) := B3; have HB2' : Hid (Boxed (w1.setCell ⟨X, 0, none⟩ (.slice a1 (N + 1 : Nat) c1)) X 22 (.slice a1 (N + 1 : Nat) c1)) := B2; clear ho2 hg2 hn2 hl2 B3 B2))
    have K1 := keeps_mv HB1.out HO1.out HV1.out WL.heap.size
    have HOS : (w1.setCell ⟨X, 0, none⟩ (.slice a1 (N + 1 : Nat) c1)).ownsRow B 5 1 (.slice a1 (N + 1 : Nat) c1) (N + 1) (L ++ [.int .u8 M]) := HW1.out.kept (grownBy_setCell' _ _ _) (.inr (Ne.symm HS2.out))
    have K2 := keeps_mv HB2'.out HOS HV2.out WL.heap.size
    have X1 : Kx X l W (w1.setCell ⟨X, 0, none⟩ (.slice a1 (N + 1 : Nat) c1)) := Kx.mv HB1.out HV1.out hXne (fun k hk => (HW1.out.lt k hk).2)
    have X2 : Kx X l (w1.setCell ⟨X, 0, none⟩ (.slice a1 (N + 1 : Nat) c1)) (w2.setCell ⟨X, 0, none⟩ (.slice a2 (N + 1 + M : Nat) c2)) := Kx.mv HB2'.out HV2.out HS2.out (fun k hk => (HW2.out.lt k hk).2)
    have hS3 : some X ≠ (Value.slice a2 (N + 1 + M : Nat) c2).ownBlock := Boxed.not_row HB3.out (by decide) HW2.out
    refine ⟨K1.trans K2, X1.trans X2, _, Boxed.set _ HB3.out, ?_, ((HM1.out.trans HV1.out).store hXw _ |>.trans HV2.out).store hXw _, ?_⟩
    · have e1 : out ++ eo ((pre ++ [(⟨some ⟨b, off, none⟩, cap, c⟩ : Ch)]).map (fun x => x.c)) = (out ++ eo (pre.map (·.c))) ++ ((M : Int) :: c) := by rw [List.map_append, List.map_singleton, eo_snoc, HMM.out]; simp
      have e2 : (out ++ eo ((pre ++ [(⟨some ⟨b, off, none⟩, cap, c⟩ : Ch)]).map (fun x => x.c))).length = N + 1 + M := by rw [e1, List.length_append, ← HN.out, HMM.out]; simp; omega
      rw [e2, e1, List.map_append, ← HL.out]
      have := HW2.out.kept (grownBy_setCell' w2 X (.slice a2 (N + 1 + M : Nat) c2)) (.inr (Ne.symm hS3))
      rw [List.append_assoc] at this
      exact this
    · rw [List.map_append, List.map_singleton, eo_snoc, List.length_append]
      have hm : c.length = M := HMM.out.symm
      simp only [List.length_cons, List.length_append, List.length_nil]
      show _ + (c.length + 1) ≤ _
      omega
  case done =>
    rintro D xs W hD hS ⟨u, b1, o1, m1, n1⟩ hK
    have hE : eo (xs.map (·.c)) = own s := hS
    rw [hE] at o1
    obtain ⟨ua, uc, rfl⟩ := owns_shape o1
    obtain ⟨N, HN⟩ : ∃ N, Hid (N = (out ++ own s).length) := ⟨_, rfl⟩
    rw [← HN.out] at o1 b1 m1
    have k0 := b1.cell
    have HK : Hid (W.heap[D]? = some (.deferred (some []))) := hK
    have hwD : w.heap.size ≤ D := by omega
    clear hS hE n1
    gi_wp2
    refine ret_1 Tryd.results22 _ _ D (.slice ua N uc) rfl HK.out _ ⟨_, rfl, ?_, m1.put _ hwD⟩
    rw [← HN.out]
    exact ownsRow_putObj o1 _ HK.out rfl
end Go.Proofs.YtblegkefeiefjaaDoor
