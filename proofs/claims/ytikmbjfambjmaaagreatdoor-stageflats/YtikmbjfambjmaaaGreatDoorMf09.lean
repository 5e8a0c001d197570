import Derived.Test.YtikmbjfambjmaaaGreatDoorMf08
import Derived.Sort.Statements
namespace Go.Proofs.YtikmbjfambjmaaaGreatDoor
open Go.RowKit Go.Shelf Go.Maps
variable [Inhabited Er]
set_option linter.unusedVariables false
set_option linter.unusedSectionVars false
set_option linter.unusedSimpArgs false
attribute [local go_sem] Oper.semAt_some
theorem range_allA {α : Type} {F : Fence} {n : Nat} {P : Program} {g : Operand} {ps : Array Tmp} {assign body : Code} {Q : Exit → Act → World → Prop} {a : Act} {w : World}
    (hro : F.round = none) (h1 : 1 ≤ n) {gf : Nat} {lb : Array Value} (hg : a.eval g = .func (.func gf) #[] lb) (hFg : F.fn gf) (eg : ∀ args w, (callFunc gf args).run P w = .ok (.enter gf args) w)
    {encs : α → Array Value} {Fx : α → World → Prop} {Kp : Nat → World → World → Prop} {S : List α → Prop} {N : Nat} (hseq : SeqAll F (n - 1) P gf lb encs Fx Kp S N w) (hps : ∀ x, (encs x).size = ps.size)
    (hKt : ∀ {l : Nat} {A B C : World}, Kp l A B → Kp l B C → Kp l A C) (hKl : ∀ (l : Nat) (W : World) (r r' : Loop), w.heap.size ≤ l → W.heap[l]? = some (.loop r) → Kp l W (W.putObj l (.loop r')))
    (hFl : ∀ (l : Nat) (W : World) (r r' : Loop) (x : α), w.heap.size ≤ l → W.heap[l]? = some (.loop r) → Fx x W → Fx x (W.putObj l (.loop r')))
    (I : List α → World → Prop) (hI : ∀ s A B, I s A → A.grownBy B none → I s B) (hIl : ∀ (s : List α) (l : Nat) (W : World) (r r' : Loop), w.heap.size ≤ l → W.heap[l]? = some (.loop r) → I s W → I s (W.putObj l (.loop r')))
    (h0 : I [] w) (ax : α → World → Act) (aw : α → World → World) (hag : ∀ (x : α) (W : World), W.grownBy (aw x W) none) (hKa : ∀ (l : Nat) (x : α) (W : World), w.heap.size ≤ l → l < W.heap.size → Kp l W (aw x W)) (hFa : ∀ (x : α) (W : World), Fx x W → Fx x (aw x W))
    (hassign : ∀ (l : Nat) (x : α) (W : World) (K : Act → World → Prop), Fx x W → K (ax x W) (aw x W) → assign.wpIn (F.inRound l) (n - 1 - 1) P (Exit.then K (fun _ _ _ => False)) { tmps := (ps.zip (encs x)).foldl (fun t (p, v) => t.setIfInBounds p v) a.tmps, defers := [] } W)
    (hbody : ∀ (l : Nat) (pre : List α) (x : α) (W0 W : World), w.heap.size ≤ l → l < W0.heap.size → (∀ k, k ≠ l → W.heap[k]? = (aw x W0).heap[k]?) → I pre W → Fx x W → pre.length < N → l < W.heap.size → W0.heap.size ≤ W.heap.size → body.wpIn (F.inRound l) (n - 1 - 1) P (fun e _ W' => e = .normal ∧ KeepsFrom w.heap.size W W' ∧ Kp l W W' ∧ I (pre ++ [x]) W') (ax x W0) W)
    (hdone : ∀ (D : Nat) (xs : List α) (W : World), w.heap.size ≤ D → S xs → I xs W → W.heap[D]? = some (.deferred (some [])) → Q .normal { a with defers := { target := .collected D, args := #[] } :: a.defers } W) :
    (Code.rangeFunc g ps assign body).wpIn F n P Q a w := by
  refine wpIn_rangeFunc ?_
  intro fn hfn
  rw [hro]
  obtain ⟨rc, hrc⟩ : ∃ rc : LoopState → Loop, rc = fun st => { state := st, pending := none, fn, tmps := a.tmps, params := ps, assign, body, defers := w.heap.size } := ⟨_, rfl⟩
  obtain ⟨W1, hW1⟩ : ∃ W1, (w.alloc (.deferred (some []))).alloc (.loop (rc .ready)) = W1 := ⟨_, rfl⟩
  have hg1 : w.grownBy W1 none := by rw [← hW1]; exact (hg_alloc w _).trans (hg_alloc _ _)
  have hs1 : W1.heap.size = w.heap.size + 2 := by rw [← hW1]; simp
  have hL1 : W1.heap[w.heap.size + 1]? = some (.loop (rc .ready)) := by
    rw [← hW1]; have := World.alloc_heap_new (w.alloc (.deferred (some []))) (.loop (rc .ready)); rwa [World.size_alloc] at this
  have hD1 : W1.heap[w.heap.size]? = some (.deferred (some [])) := by
    rw [← hW1]; exact (Below.heap_alloc _ _ _ (by simp)).trans (World.alloc_heap_new w _)
  have hb1 : Below w.heap.size w W1 := ⟨hg1.os, hg1.tape, hg1.output, hg1.size, fun k hk => hg1.block k hk (by simp)⟩
  refine ⟨w.heap.size + 1, [{ target := .collected w.heap.size, args := #[] }], W1, { target := .fn (.func gf) lb, args := #[.func (.yield (w.heap.size + 1)) #[] #[]] }, W1, gf,
    #[.func (.yield (w.heap.size + 1)) #[] #[]] ++ lb, W1, ?_, ?_, ?_, ?_, fun _ => h1, ?_⟩
  · rw [← hW1, hrc]; exact run_enterLoop_outer _ _ _ _ _
  · simp only [resolve, hg]
    simp [go_sem]
  · intro f' hf'; simp [Target.leads] at hf'; subst hf'; exact hFg
  · simp [invoke, go_sem, eg]
  · have keep : ∀ {A B : World} {k : Nat} {o : Obj}, A.grownBy B none → A.heap[k]? = some o → B.heap[k]? = some o := fun hg' hk => (hg'.block _ (Array.getElem?_eq_some_iff.1 hk).1 (by simp)).trans hk
    refine (hseq (w.heap.size + 1) (fun pre W => I pre W ∧ W.heap[w.heap.size + 1]? = some (.loop (rc .ready)) ∧ W.heap[w.heap.size]? = some (.deferred (some []))) W1 hb1 (by omega) (by omega)
      (fun s A B hs hg' => ⟨hI s A B hs.1 hg', keep hg' hs.2.1, keep hg' hs.2.2⟩) ?_ ⟨hI _ _ _ h0 hg1, hL1, hD1⟩).mono ?_
    · rintro pre x W0 ⟨hi0, hl0, hd0⟩ hfx0 hlen
      have hlt0 : w.heap.size + 1 < W0.heap.size := (Array.getElem?_eq_some_iff.1 hl0).1
      have hy := run_yield (P := P) (args := encs x) hl0 (by rw [hrc]; exact hps x)
      rw [hrc] at hy
      have hle : w.heap.size ≤ w.heap.size + 1 := by omega
      have hga := hag x W0
      have hi := hI _ _ _ hi0 hga
      have hl := keep hga hl0
      have hd := keep hga hd0
      have hfx := hFa x W0 hfx0
      have hKp0 := hKa (w.heap.size + 1) x W0 hle hlt0
      refine ⟨fn, _, assign, body, hy, roundIn_of_wpIn hfn (hassign _ x W0 _ hfx0 ?_)⟩
      have hbody0 := hbody (w.heap.size + 1) pre x W0
      have hsz0 := hga.size
      generalize hWW : aw x W0 = W at hi hl hd hfx hKp0 hbody0 hsz0 ⊢
      have hlt : w.heap.size + 1 < W.heap.size := (Array.getElem?_eq_some_iff.1 hl).1
      refine ⟨_, run_beginRound hl (by rw [hrc]), ?_⟩
      have hl2 : (W.putObj (w.heap.size + 1) (.loop { rc .ready with state := .busy })).heap[w.heap.size + 1]? = some (.loop { rc .ready with state := .busy }) := World.putObj_heap_same hlt
      have hd2 : (W.putObj (w.heap.size + 1) (.loop { rc .ready with state := .busy })).heap[w.heap.size]? = some (.deferred (some [])) := (World.putObj_heap_other (by omega)).trans hd
      refine wpIn_mono (hbody0 _ hle hlt0 (fun k hk => World.putObj_heap_other hk) (hIl _ _ _ _ _ hle hl hi) (hFl _ _ _ _ _ hle hl hfx) hlen (by rw [World.putObj_size]; exact hlt) (by rw [World.putObj_size]; exact hsz0)) ?_
      rintro e a3 W3 ⟨rfl, hk3, hkp3, hi3⟩
      have hl3 := hk3.same _ _ hle hl2 rfl
      have hd3 := hk3.same _ _ (Nat.le_refl _) hd2 rfl
      have hr := run_endRound (P := P) none hl3
      refine ⟨_, _, hr, rfl, ⟨hIl _ _ _ _ _ hle hl3 hi3, ?_, (World.putObj_heap_other (by omega)).trans hd3⟩, hKt hKp0 (hKt (hKt (hKl _ _ _ _ hle hl) hkp3) (hKl _ _ _ _ hle hl3))⟩
      rw [World.putObj_heap_same (Array.getElem?_eq_some_iff.1 hl3).1, hrc]
      rfl
    · rintro e W2 ⟨⟨v, rfl⟩, xs, hS, hi, hl, hd⟩
      refine ⟨none, _, by have := run_endLoop (P := P) hl (by rw [hrc]; simp); rw [hrc] at this; exact this, ?_⟩
      exact hdone _ xs _ (Nat.le_refl _) hS (hIl _ _ _ _ _ (by omega) hl hi) ((World.putObj_heap_other (by omega)).trans hd)
def fE (es : List Er) : List Value := es.flatMap erV
theorem fE_snoc (es : List Er) (x : Er) : fE (es ++ [x]) = fE es ++ erV x := by simp [fE]
def CoI (w : World) (X B : Nat) (v : Value) (pre : List Er) (W : World) : Prop :=
  ∃ u, Boxed W X 72 u ∧ W.ownsRow B 84 22 u pre.length (fE pre) ∧ Mv w W v u
theorem CoI.grow {w : World} {X B : Nat} {v : Value} (s : List Er) (A C : World) (h : CoI w X B v s A) (hg : A.grownBy C none) : CoI w X B v s C := by
  obtain ⟨u, h1, h2, h3⟩ := h
  exact ⟨u, h1.kept hg (by simp), h2.kept hg (by cases e : u.ownBlock <;> simp), h3.trans (Mv.grow u hg)⟩
theorem CoI.put {w : World} {X B : Nat} {v : Value} {n : Nat} (hX : X < n) (hw : w.heap.size ≤ n) (s : List Er) (l : Nat) (W : World) (r r' : Loop) (hl : n ≤ l) (hr : W.heap[l]? = some (.loop r)) (h : CoI w X B v s W) : CoI w X B v s (W.putObj l (.loop r')) := by
  obtain ⟨u, h1, h2, h3⟩ := h
  exact ⟨u, (World.putObj_heap_other (by omega)).trans h1, ownsRow_putObj h2 _ hr rfl, h3.put _ (by omega)⟩
theorem Tryz.results88 : Tryz.f88.results = #[.tmp 4] := by kernel_rfl
def PostK (w : World) (es : List Er) (e : Ending) (w' : World) : Prop := ∃ v', e = .returned v' ∧ w'.ownsRow w.heap.size 84 22 v' es.length (fE es) ∧ Below w.heap.size w w'
set_option maxRecDepth 100000 in
set_option maxHeartbeats 4000000 in
theorem appendSeq_any (Bs : Nat) (a : Option Addr) (cap : Nat) (es : List Er) (w : World) (hwf : WfE es) (hP : Pe w a cap es) (hl : es.length ≤ 1000) (hbs : Boxed w Bs 72 (.slice a es.length cap)) :
    Calls Tryz.prog 88 #[.slice none 0 0, .func (.func 73) #[] #[.pointer (some ⟨Bs, 0, none⟩)]] w (PostK w es) := by
  have hi0 := Tryz.info84
  have hb0 := Tryz.bytes84
  cases hq : Tryz.prog.info? 84 with
  | none => rw [hq] at hi0; cases hi0
  | some i51 =>
  rw [hq] at hi0 hb0
  simp only [Option.map_some, Option.some.injEq, Prod.mk.injEq] at hi0 hb0
  obtain ⟨hz0, hz1⟩ := hi0
  have HI : Hid (Tryz.prog.info? 84 = some i51) := hq
  have HZ0 : Hid (i51.zero = some (.agg (erV ⟨0, [], z20⟩).toArray)) := hz0
  have HZ1 : Hid (i51.size = 22) := hz1
  have HZ2 : Hid (i51.bytes = 48) := hb0
  have HS51 : Hid ((Tryz.prog.info? 84).map (·.size) = some 22) := size51
  clear hq hz0 hz1 hb0
  have HPE : Hid (Pe w a cap es) := hP
  have HWF : Hid (WfE es) := hwf
  have HBS : Hid (Boxed w Bs 72 (.slice a es.length cap)) := hbs
  clear hP hwf hbs
  obtain ⟨zr, HZ⟩ : ∃ zr : Array Value, Hid (zr = (erV ⟨0, [], z20⟩).toArray) := ⟨_, rfl⟩
  have hz51 : ∀ w : World, (zeroValue 84).run Tryz.prog w = .ok (.agg zr) w := fun w => by rw [HZ.out]; exact zero51 w
  refine (callsIn_wide (n := 3)).1 ?_
  refine callsIn_of_wp_marks Tryz.func88 rfl trivial ?_ rfl
  simp only [Tryz.ntmps88, List.size_toArray, List.length_cons, List.length_nil, Nat.reduceAdd, Nat.reduceSub, Array.replicate_succ, Array.replicate_zero, List.push_toArray, List.append_toArray, List.nil_append, List.cons_append]
  gi_wp2
  obtain ⟨X, HX⟩ : ∃ X, Hid (X = w.heap.size) := ⟨_, rfl⟩
  obtain ⟨WL, HWL⟩ : ∃ WL, Hid (w.alloc (.cells #[.slice none 0 0] 72) = WL) := ⟨_, rfl⟩
  have hgw : w.grownBy WL none := by rw [← HWL.out]; exact hg_alloc w _
  have hsz : WL.heap.size = X + 1 := by rw [← HWL.out, HX.out]; simp
  have bX : Boxed WL X 72 (.slice none 0 0) := by rw [← HWL.out, HX.out]; exact Boxed.new w 72 _
  have hno : ∀ k, ¬ Ob X WL k := fun k ⟨u, h1, h2⟩ => by rw [bX.cell] at h1; cases h1; cases h2
  have hbw : Below w.heap.size w WL := ⟨hgw.os, hgw.tape, hgw.output, hgw.size, fun k hk => hgw.block k hk (by simp)⟩
  have hI0 : CoI w X X (.slice none 0 0) [] WL := ⟨_, bX, World.ownsRow_nil _ _ _ _, Mv.grow _ hgw⟩
  have hSL : Pe WL a cap es := HPE.out.below hbw
  have bS : Boxed WL Bs 72 (.slice a es.length cap) := HBS.out.kept hgw (by simp)
  have hBsX : Bs < X := by rw [HX.out]; exact HBS.out.lt
  have hfa : 0 < es.length → ∀ p : Addr, a = some p → Fre X WL p.block := fun h0 p hp => by
    obtain ⟨b, off, e1, e2, _⟩ := HPE.out.at_ h0
    rw [hp] at e1; cases e1
    rw [← HX.out] at e2
    exact ⟨by rw [hsz]; exact Nat.lt_succ_of_lt e2, Nat.ne_of_lt e2, hno _⟩
  rw [HWL.out]
  rw [← HX.out]
  have hXw : w.heap.size ≤ X := by rw [HX.out]; exact Nat.le_refl _
  refine range_allA (F := Fence.wide) (n := 3) rfl (by omega) (gf := 73) (lb := #[.pointer (some ⟨Bs, 0, none⟩)]) rfl trivial (enters_of Tryz.func73 (by kernel_rfl) rfl)
    (values_all 2 (by omega) WL X Bs a cap es HWF.out hSL hl bS (by omega) ⟨by omega, by omega, hno _⟩ hfa)
    (fun _ => rfl) Kx.trans (fun l W r r' hl _ => Kx.loop (r := r) (by omega)) (fun l W r r' x hl hr hf => hf)
    (CoI w X X (.slice none 0 0)) (fun s A C h hg => CoI.grow s A C h hg) (fun s l W r r' hl hr h => CoI.put (n := WL.heap.size) (by omega) (by omega) s l W r r' hl hr h) hI0
    (fun x W => { tmps := #[.slice none 0 0, .func (.func 73) #[] #[.pointer (some ⟨Bs, 0, none⟩)], .pointer (some ⟨X, 0, none⟩), undef, .slice none 0 0, .pointer (some ⟨W.heap.size, 0, none⟩), .func (.func 73) #[] #[.pointer (some ⟨Bs, 0, none⟩)], .agg (erV x).toArray, undef, undef, undef, undef, undef], defers := [] }) (fun x W => (W.alloc (.cells zr 84)).setRow W.heap.size (erV x).toArray) ?_ ?_ (fun x W h => h) ?assign ?body ?done
  · intro x W; exact grown_of_below (below_setRow ((Below.refl _ W).alloc (Nat.le_refl _) _) (Nat.le_refl _) _) _
  · intro l x W h1 h2; exact Kx.grow (by omega) (grown_of_below (below_setRow ((Below.refl _ W).alloc (Nat.le_refl _) _) (Nat.le_refl _) _) _)
  case assign =>
    intro l x W K hx20 hK
    obtain ⟨R, HR⟩ : ∃ R : List Value, Hid (erV x = R) := ⟨_, rfl⟩
    have HFN : Hid (R.length = 22) := hid (by rw [← HR.out]; exact erV_len x hx20)
    have I51 : Hid ((Tryz.prog.info? 84).map (·.size) = some R.toArray.size) := hid (by rw [List.size_toArray, HFN.out]; exact HS51.out)
    have E51 : Hid (zr.size = R.toArray.size) := hid (by rw [HZ.out, List.size_toArray, List.size_toArray, HFN.out]; rfl)
    have O51 : Hid (R.toArray.all (·.oneCell') = true) := hid (by rw [← HR.out]; exact all_oneCell_toArray (erV_one _))
    have D0 : Hid ((W.alloc (.cells zr 84)).heap[W.heap.size]? = some (.cells zr 84 (0, 0))) := heap_alloc_new W _
    rw [HR.out] at hK
    dsimp only [encE]
    rw [HR.out]
    gi_wp2_with (refine wpListIn_store_row rfl 84 _ _ rfl W.heap.size R.toArray rfl rfl 84 zr D0.out I51.out E51.out O51.out ?_)
    exact hK
  case body =>
    rintro l pre x W0 W hlX hlW0 hoth ⟨u, b1, o1, m1⟩ hx20 hlen hlW hsW
    have hlX' : X + 1 ≤ l := by omega
    clear hsz
    obtain ⟨N, HN⟩ : ∃ N, Hid (N = pre.length) := ⟨_, rfl⟩
    obtain ⟨L, HL⟩ : ∃ L, Hid (L = fE pre) := ⟨_, rfl⟩
    have hN : N ≤ 1000 := by rw [HN.out]; omega
    rw [← HN.out, ← HL.out] at o1
    obtain ⟨ua, uc, rfl⟩ := owns_shape o1
    obtain ⟨V, HV⟩ : ∃ V, Hid (W0.heap.size = V) := ⟨_, rfl⟩
    obtain ⟨R, HR⟩ : ∃ R : List Value, Hid (erV x = R) := ⟨_, rfl⟩
    have HFN : Hid (R.length = 22) := hid (by rw [← HR.out]; exact erV_len x hx20)
    have hi51 : (Tryz.prog.info? 84).map (·.size) = some R.length := by rw [HFN.out]; exact HS51.out
    have R2 : Hid (W.rangeAt V 0 R) := hid (by
      rw [← HV.out, ← HR.out]
      refine range_row (t := 84) (fr := (0, 0)) ?_
      rw [hoth _ (by omega)]
      exact setRow_heap _ _ _ (erV x).toArray _ _ (heap_alloc_new W0 _))
    have HRB : Hid (∀ W, (Instr.buildSlice 72 1 #[(0, .agg R.toArray)]).run Tryz.prog W = .ok (.slice (some ⟨W.heap.size, 0, none⟩) 1 1) (W.alloc (.cells R.toArray 84))) := fun W => by rw [← HR.out]; exact run_build51 x hx20 W
    have HR1 : Hid (∀ v ∈ R, v.oneCell' = true) := hid (by rw [← HR.out]; exact erV_one x)
    have hXne : some X ≠ (Value.slice ua N uc).ownBlock := b1.not_row (by decide) o1
    have k0 := b1.cell
    have f0 := b1.frozen
    have hBW : X ≤ W.heap.size := by have := m1.size; omega
    have HO1 : Hid (W.ownsRow X 84 22 (.slice ua N uc) N L) := o1
    have HB1 : Hid (Boxed W X 72 (.slice ua N uc)) := b1
    have HM1 : Hid (Mv w W (.slice none 0 0) (.slice ua N uc)) := m1
    have HNR : Hid (∀ j z, R[j]? = some z → (W.alloc (.cells R.toArray 84)).cell? ((⟨W.heap.size, 0, none⟩ : Addr).add j) = some z) := news_rowE _ _ _
    clear o1 b1 m1 hoth
    rw [HV.out]
    gi_wp2_with (first
      | refine wpListIn_load_mid rfl 84 _ rfl V 0 rfl R _ R2.out Tryz.underlying84 rfl hi51 ?_
      | refine wpListIn_buildSlice rfl 72 1 _ rfl (.agg R.toArray) _ rfl (HRB.out _) ?_
      | (gi_at_builtin; refine wpListIn_append_own_at _ rfl _ _ 72 rfl X 84 i51 (.agg (erV ⟨0, [], z20⟩).toArray) 22 48 Tryz.underlying72 HI.out HZ0.out HZ1.out HZ2.out rfl (by decide) _ N L rfl (HO1.out.alloc _) ⟨W.heap.size, 0, none⟩ 1 1 R rfl (by rw [HFN.out]) HNR.out HR1.out (by unfold maxLen; omega) (by omega) (by simp; omega) ?_; intro v1 w1 ho1 hg1 hn1 hl1; obtain ⟨a1, c1, rfl⟩ := owns_shape ho1; have HV1 : Hid (Mv W w1 (.slice ua N uc) (.slice a1 (N + 1 : Nat) c1)) := Mv.app (hg_alloc W _) hg1 hl1; have HW1 : Hid (w1.ownsRow X 84 22 (.slice a1 (N + 1 : Nat) c1) (N + 1) (L ++ R)) := ho1; clear ho1 hg1 hn1 hl1; have HB2 : Hid (Boxed w1 X 72 (.slice ua N uc)) := (HV1.out.blk X HB1.out.lt hXne).trans HB1.out; have kx1 := HB2.out.cell; have fx1 := HB2.out.frozen))
    have K1 := keeps_mv HB1.out HO1.out HV1.out WL.heap.size
    have X1 : Kx X l W (w1.setCell ⟨X, 0, none⟩ (.slice a1 (N + 1 : Nat) c1)) := Kx.mv HB1.out HV1.out hXne (fun k hk => (HW1.out.lt k hk).2)
    have hS3 : some X ≠ (Value.slice a1 (N + 1 : Nat) c1).ownBlock := Boxed.not_row HB2.out (by decide) HW1.out
    refine ⟨K1, X1, _, Boxed.set _ HB2.out, ?_, (HM1.out.trans HV1.out).store hXw _⟩
    rw [List.length_append, fE_snoc, ← HN.out, ← HL.out, HR.out]
    exact HW1.out.kept (grownBy_setCell' w1 X (.slice a1 (N + 1 : Nat) c1)) (.inr (Ne.symm hS3))
  case done =>
    rintro D xs W hD hS ⟨u, b1, o1, m1⟩ hK
    subst hS
    obtain ⟨ua, uc, rfl⟩ := owns_shape o1
    have k0 := b1.cell
    have HK : Hid (W.heap[D]? = some (.deferred (some []))) := hK
    have hwD : w.heap.size ≤ D := by omega
    gi_wp2
    refine ret_1 Tryz.results88 _ _ D (.slice ua xs.length uc) rfl HK.out _ ⟨_, rfl, ?_, (m1.put _ hwD).below (fun k hk => by cases hk) (Nat.le_refl _)⟩
    rw [← HX.out]
    exact ownsRow_putObj o1 _ HK.out rfl
end Go.Proofs.YtikmbjfambjmaaaGreatDoor
namespace Go.Proofs.YtikmbjfambjmaaaGreatDoor
open Go.RowKit
set_option linter.unusedVariables false
set_option linter.unusedSimpArgs false
theorem cb_iff : ∀ a b : List UInt8, Lib.compareBytes a b < 0 ↔ a < b
  | [], [] => by simp [Lib.compareBytes]
  | [], b :: bs => by simp [Lib.compareBytes]
  | a :: xs, [] => by simp [Lib.compareBytes]
  | a :: xs, b :: bs => by
    rw [Lib.compareBytes, List.cons_lt_cons_iff, ← cb_iff xs bs]
    by_cases h1 : a < b
    · simp [h1]
    · rw [if_neg h1]
      by_cases h2 : b < a
      · rw [if_pos h2]
        have hne : a ≠ b := fun e => by rw [e] at h2; exact absurd h2 (by rw [UInt8.lt_iff_toNat_lt]; omega)
        simp [h1, hne]
      · rw [if_neg h2]
        have he : a = b := by
          rw [UInt8.lt_iff_toNat_lt] at h1 h2
          exact UInt8.toNat_inj.1 (by omega)
        simp [h1, he]
theorem lex_total (a b : List UInt8) (h1 : ¬ a < b) (h2 : ¬ b < a) : a = b := List.le_antisymm (List.not_lt.1 h2) (List.not_lt.1 h1)
theorem lex_trans (a b c : List UInt8) (h1 : a < b) (h2 : b < c) : a < c := List.lt_trans h1 h2
theorem lex_ntrans (a b c : List UInt8) (h1 : ¬ a < b) (h2 : ¬ b < c) : ¬ a < c := List.not_lt.2 (List.le_trans (List.not_lt.1 h2) (List.not_lt.1 h1))
theorem lex_irrefl (a : List UInt8) : ¬ a < a := List.lt_irrefl a
theorem asc_one : ∀ (x y : List Er), x.Perm y → (x.map keyB).Nodup → x.Pairwise (fun a b => ¬ keyB b < keyB a) → y.Pairwise (fun a b => ¬ keyB b < keyB a) → x = y
  | [], y, hp, _, _, _ => by simpa using hp.symm.eq_nil
  | a :: x, [], hp, _, _, _ => by simpa using hp.eq_nil
  | a :: x, b :: y, hp, hn, hx, hy => by
    have hn' := hn
    rw [List.map_cons, List.nodup_cons] at hn
    rw [List.pairwise_cons] at hx hy
    have hk : keyB a = keyB b := by
      have ha : a ∈ b :: y := hp.subset (List.mem_cons_self)
      have hb : b ∈ a :: x := hp.symm.subset (List.mem_cons_self)
      rcases List.mem_cons.1 ha with h | h
      · rw [h]
      · rcases List.mem_cons.1 hb with h' | h'
        · rw [h']
        · exact lex_total _ _ (hy.1 a h) (hx.1 b h')
    have hab : a = b := by
      have hb : b ∈ a :: x := hp.symm.subset (List.mem_cons_self)
      rcases List.mem_cons.1 hb with h' | h'
      · exact h'.symm
      · exact absurd (List.mem_map.2 ⟨b, h', hk.symm⟩) hn.1
    subst hab
    rw [asc_one x y (List.perm_cons a |>.1 hp) hn.2 hx.2 hy.2]
end Go.Proofs.YtikmbjfambjmaaaGreatDoor
namespace Go.Proofs.YtikmbjfambjmaaaGreatDoor
set_option linter.unusedVariables false
def ins (x : Er) : List Er → List Er
  | [] => [x]
  | y :: t => if keyB x < keyB y then x :: y :: t else y :: ins x t
theorem ins_perm (x : Er) : ∀ l : List Er, (ins x l).Perm (x :: l)
  | [] => by simp [ins]
  | y :: t => by
    rw [ins]
    split
    · exact List.Perm.refl _
    · exact ((ins_perm x t).cons y).trans (List.Perm.swap x y t)
theorem ins_asc (x : Er) : ∀ l : List Er, l.Pairwise (fun a b => ¬ keyB b < keyB a) → (ins x l).Pairwise (fun a b => ¬ keyB b < keyB a)
  | [], _ => by simp [ins]
  | y :: t, h => by
    have h' := List.pairwise_cons.1 h
    rw [ins]
    split
    · rename_i hlt
      refine List.pairwise_cons.2 ⟨fun b hb => ?_, h⟩
      rcases List.mem_cons.1 hb with rfl | hb
      · exact fun e => lex_irrefl _ (lex_trans _ _ _ e hlt)
      · exact fun e => h'.1 b hb (lex_trans _ _ _ e hlt)
    · rename_i hlt
      refine List.pairwise_cons.2 ⟨fun b hb => ?_, ins_asc x t h'.2⟩
      rcases List.mem_cons.1 ((ins_perm x t).subset hb) with rfl | hb
      · exact hlt
      · exact h'.1 b hb
def srtE (l : List Er) : List Er := l.foldl (fun out x => ins x out) []
theorem srt_go : ∀ (l out : List Er), out.Pairwise (fun a b => ¬ keyB b < keyB a) → (l.foldl (fun out x => ins x out) out).Pairwise (fun a b => ¬ keyB b < keyB a) ∧ (l.foldl (fun out x => ins x out) out).Perm (out ++ l)
  | [], out, h => ⟨h, by simp⟩
  | x :: l, out, h => by
    obtain ⟨h1, h2⟩ := srt_go l (ins x out) (ins_asc x out h)
    refine ⟨h1, h2.trans ?_⟩
    refine ((ins_perm x out).append_right l).trans ?_
    exact List.perm_middle.symm
theorem srtE_asc (l : List Er) : (srtE l).Pairwise (fun a b => ¬ keyB b < keyB a) := (srt_go l [] List.Pairwise.nil).1
theorem srtE_perm (l : List Er) : (srtE l).Perm l := (srt_go l [] List.Pairwise.nil).2.trans (by simp)
theorem srtE_one (l x : List Er) (hn : (l.map keyB).Nodup) (hp : x.Perm l) (ha : x.Pairwise (fun a b => ¬ keyB b < keyB a)) : x = srtE l :=
  asc_one x (srtE l) (hp.trans (srtE_perm l).symm) (((hp.map keyB).nodup_iff).2 hn) ha (srtE_asc l)
theorem key_inj (x y : Er) (hx : ∀ b ∈ x.name, b ≠ 47) (hy : ∀ b ∈ y.name, b ≠ 47) (h : keyB x = keyB y) : x.name = y.name := by
  unfold keyB at h
  split at h <;> split at h
  · exact List.append_cancel_right h
  · exact absurd rfl (hy 47 (by rw [← h]; simp))
  · exact absurd rfl (hx 47 (by rw [h]; simp))
  · exact h
theorem key_nodup : ∀ (l : List Er), (∀ x ∈ l, ∀ b ∈ x.name, b ≠ 47) → (l.map (·.name)).Nodup → (l.map keyB).Nodup
  | [], _, _ => by simp
  | x :: l, h, hn => by
    rw [List.map_cons, List.nodup_cons] at hn ⊢
    refine ⟨fun hm => hn.1 ?_, key_nodup l (fun y hy => h y (by simp [hy])) hn.2⟩
    obtain ⟨y, hy, e⟩ := List.mem_map.1 hm
    exact List.mem_map.2 ⟨y, hy, (key_inj y x (h y (by simp [hy])) (h x (by simp)) e)⟩
end Go.Proofs.YtikmbjfambjmaaaGreatDoor
namespace Go.Proofs.YtikmbjfambjmaaaGreatDoor
open Go.RowKit
variable [Inhabited Er]
set_option linter.unusedVariables false
set_option linter.unusedSectionVars false
set_option linter.unusedSimpArgs false
theorem keyed9 : Maps.Keyed Tryz.prog 9 := Maps.string_keyed Tryz.underlying9
theorem key_str (x : List UInt8) (h : x.length ≤ 1000000) : keyOf Tryz.prog 9 (.string ⟨x.toArray⟩) = some (.string x) := by
  have h2 : (⟨x.toArray⟩ : ByteArray).size ≤ maxLen := by simp [ByteArray.size, maxLen]; omega
  unfold keyOf
  rw [Tryz.underlying9]
  simp [mapKey, Tryz.underlying9, h2]
theorem str_inj {x y : List UInt8} (h : (Value.string ⟨x.toArray⟩) = .string ⟨y.toArray⟩) : x = y := by
  injection h with h
  have := congrArg (fun b : ByteArray => b.data.toList) h
  simpa using this
structure Ps (w : World) (a : Option Addr) (cap : Nat) (ss : List (List UInt8)) : Prop where
  capl : ss.length ≤ cap
  at_ : 0 < ss.length → ∃ b off, a = some ⟨b, off, none⟩ ∧ b < w.heap.size ∧ ∀ i, i < ss.length → w.cell? ⟨b, off + i, none⟩ = some (.string ⟨(ss.getD i []).toArray⟩)
theorem Ps.below {w w' : World} {a : Option Addr} {cap : Nat} {ss : List (List UInt8)} (h : Ps w a cap ss) (hb : Below w.heap.size w w') : Ps w' a cap ss :=
  ⟨h.capl, fun h0 => by
    obtain ⟨b, off, e1, e2, e3⟩ := h.at_ h0
    exact ⟨b, off, e1, Nat.lt_of_lt_of_le e2 hb.size, fun i hi => (hb.cell (p := ⟨b, off + i, none⟩) e2).trans (e3 i hi)⟩⟩
def DS (l : List (List UInt8)) (i : Nat) (D : DataW Unit) : Prop := (∀ kl, Maps.has D kl = true ↔ ∃ x ∈ l, keyOf Tryz.prog 9 (.string ⟨x.toArray⟩) = some kl) ∧ Maps.size D ≤ i ∧ (Maps.size D = i ↔ l.Nodup)
theorem ds_zero : DS [] 0 (.map []) := ⟨fun kl => by simp [Maps.has], Nat.le_refl _, by simp [Maps.size]⟩
theorem DS.step {l : List (List UInt8)} {i : Nat} {D : DataW Unit} (h : DS l i D) (ht : Maps.Tidy D) (x : List UInt8) (kl : Lit) (hk : keyOf Tryz.prog 9 (.string ⟨x.toArray⟩) = some kl) (d : DataW Unit) : DS (l ++ [x]) (i + 1) (D.put kl d) := by
  obtain ⟨h1, h2, h3⟩ := h
  have hx : Maps.has D kl = true ↔ x ∈ l := by
    rw [h1]
    constructor
    · rintro ⟨y, hy, e⟩
      rw [← str_inj (keyed9.inj e hk)]
      exact hy
    · intro hx; exact ⟨x, hx, hk⟩
  refine ⟨fun kl' => ?_, ?_, ?_⟩
  · by_cases e : kl' = kl
    · subst e
      rw [Maps.has_put_same ht.isMap (keyed9.key hk)]
      simp only [true_iff]
      exact ⟨x, by simp, hk⟩
    · rw [Maps.has_put_other e, h1]
      constructor
      · rintro ⟨y, hy, e2⟩; exact ⟨y, by simp [hy], e2⟩
      · rintro ⟨y, hy, e2⟩
        rcases List.mem_append.1 hy with hy | hy
        · exact ⟨y, hy, e2⟩
        · have : y = x := by simpa using hy
          subst this
          rw [hk] at e2
          exact absurd (Option.some.inj e2).symm e
  · rw [Maps.size_put ht]
    split <;> omega
  · rw [Maps.size_put ht, List.nodup_append]
    by_cases hm : x ∈ l
    · rw [if_pos (hx.2 hm)]
      constructor
      · intro e; omega
      · rintro ⟨_, _, h⟩
        exact absurd rfl (h x hm x (by simp))
    · rw [if_neg (fun e => hm (hx.1 e))]
      constructor
      · intro e
        refine ⟨h3.1 (by omega), by simp, fun a ha b hb e2 => ?_⟩
        have : b = x := by simpa using hb
        rw [e2, this] at ha
        exact hm ha
      · rintro ⟨h, _, _⟩
        have := h3.2 h
        omega
theorem take_snocS (ss : List (List UInt8)) (i : Nat) (h : i < ss.length) : ss.take (i + 1) = ss.take i ++ [ss.getD i []] := by
  rw [List.take_add_one, List.getD_eq_getElem?_getD, List.getElem?_eq_getElem h]
  rfl
theorem run_makeMap_str (n : Nat) (hn : n ≤ 1000) (w : World) : (Instr.makeMap 181 (some (.int .i64 (n : Int)))).run Tryz.prog w = .ok (.map (some w.heap.size)) (w.alloc (.map #[] 0)) := by
  have h : ¬ (n : Int) < 0 := by omega
  unfold Instr.makeMap
  go_simp
set_option maxRecDepth 20000 in
set_option maxHeartbeats 1000000 in
theorem differS_any (a : Option Addr) (cap : Nat) (ids : List (List UInt8)) (hwf : ∀ x ∈ ids, x.length ≤ 1000000) (hn : ids.length ≤ 1000) (w : World) (hP : Ps w a cap ids) :
    Calls Tryz.prog 70 #[.slice a ids.length cap] w fun e w' => BIs ids.Nodup e ∧ Below w.heap.size w w' := by
  obtain ⟨n, HN⟩ : ∃ n, Hid (ids.length = n) := ⟨_, rfl⟩
  obtain ⟨G, HG⟩ : ∃ G, Hid (w.heap.size = G) := ⟨_, rfl⟩
  have hnn : n ≤ 1000 := by rw [← HN.out]; exact hn
  have HPA : Hid (∀ W, Below G w W → Ps W a cap ids) := fun W hW => hP.below (by rw [HG.out]; exact hW)
  have HPL : Hid (0 < n → ∃ b off, a = some ⟨b, off, none⟩ ∧ b < G) := fun h0 => by
    obtain ⟨b, off, e1, e2, _⟩ := hP.at_ (by rw [HN.out]; exact h0)
    exact ⟨b, off, e1, by rw [← HG.out]; exact e2⟩
  obtain ⟨w1, HW1⟩ : ∃ w1, Hid (w.alloc (.map #[] 0) = w1) := ⟨_, rfl⟩
  have OW1 : Hid (w1.ownsMap (H := Unit) Tryz.prog 9 (plainElem Tryz.prog 3) G 0 (.map [])) := hid (by rw [← HW1.out, ← HG.out]; exact World.ownsMap_made _ _ _ _)
  have HB1 : Hid (Below G w w1) := hid (by rw [← HW1.out, ← HG.out]; exact (Below.refl _ w).alloc (Nat.le_refl _) _)
  have hmm : (Instr.makeMap 181 (some (.int .i64 (n : Int)))).run Tryz.prog w = .ok (.map (some w.heap.size)) (w.alloc (.map #[] 0)) := run_makeMap_str n hnn w
  rw [HN.out]
  clear hP
  go_enter Tryz.func70, Tryz.ntmps70
  go_wp2_with fail
  rw [HG.out, HW1.out]
  go_loopg [11] n (fun g v wr => ∃ (i : Nat) (D : DataW Unit), i ≤ n ∧ v = .int .i64 i ∧ g = n - i ∧ Hid (wr.ownsMap (H := Unit) Tryz.prog 9 (plainElem Tryz.prog 3) G i D) ∧ Hid (Below G w wr) ∧ Hid (DS (ids.take i) i D))
  case atStart => exact ⟨0, _, Nat.zero_le _, rfl, rfl, OW1, HB1, hid (by rw [List.take_zero]; exact ds_zero)⟩
  case round =>
    obtain ⟨i, D, hi, rfl, hk, OW, HB, HD⟩ := hrel
    by_cases hlt : i < n
    · have hlti : (i : Int) < (n : Int) := by omega
      obtain ⟨b, off, hae, hbG⟩ := HPL.out (by omega)
      subst hae
      obtain ⟨b', off', e1, e2, e3⟩ := (HPA.out wr HB.out).at_ (by rw [HN.out]; omega)
      cases e1
      obtain ⟨x, HX⟩ : ∃ x, Hid (ids.getD i [] = x) := ⟨_, rfl⟩
      have hxm : x ∈ ids := by
        rw [← HX.out, List.getD_eq_getElem?_getD, List.getElem?_eq_getElem (by rw [HN.out]; exact hlt)]
        exact List.getElem_mem _
      have hkl := key_str x (hwf x hxm)
      obtain ⟨S, HS⟩ : ∃ S : ByteArray, Hid ((⟨x.toArray⟩ : ByteArray) = S) := ⟨_, rfl⟩
      have HKL : Hid (keyOf Tryz.prog 9 (.string S) = some (.string x)) := hid (by rw [← HS.out]; exact hkl)
      have HKX : Hid (keyOf Tryz.prog 9 (.string ⟨x.toArray⟩) = some (.string x)) := hkl
      have cS : wr.cell? ⟨b, off + i, none⟩ = some (.string S) := by rw [← HS.out, ← HX.out]; exact e3 i (by rw [HN.out]; exact hlt)
      have HWF : Hid ((Lit.int .i64 (i : Int)).wf = true) := hid (WalkArith.wf_i64 (by omega))
      clear hkl hxm e3 e2
      go_wp2_with (first
        | (at_mapUpdate; refine wpList_mapUpdate_own _ rfl _ _ _ 181 rfl 9 3 keyed9 Tryz.underlying181 _ G i D rfl OW.out (by unfold maxLen; omega) _ _ (.string x) rfl rfl HKL.out _ [] (plainElem_int Tryz.underlying3 HWF.out) ?_; intro w3 hown3 hgrow3; have OW3 : Hid _ := hown3; have HB3 : Hid (Below G w w3) := HB.out.grown hgrow3 (Nat.le_of_lt OW.out.lt) (fun j hj => by cases hj; exact Nat.le_refl _); clear hown3 hgrow3))
      go_roundg (n - (i + 1))
      case measure => omega
      case rel =>
        refine ⟨i + 1, _, by omega, by go_num, rfl, OW3, HB3, hid ?_⟩
        rw [take_snocS ids i (by rw [HN.out]; exact hlt), HX.out]
        exact HD.out.step (OW.out.tidy keyed9) x (.string x) HKX.out _
    · have hlti : ¬ (i : Int) < (n : Int) := by omega
      have hin : i = n := by omega
      have HDN : Hid (Maps.size D = n ↔ ids.Nodup) := hid (by
        have := HD.out.2.2
        rw [hin, List.take_of_length_le (by rw [HN.out]; omega)] at this
        exact this)
      obtain ⟨sz, HSZ⟩ : ∃ sz, Maps.size D = sz := ⟨_, rfl⟩
      obtain ⟨eq, HEQ⟩ : ∃ b : Bool, ((sz : Int) == (n : Int)) = b := ⟨_, rfl⟩
      have FIN : Hid (BIs ids.Nodup (.returned (.bool eq))) := ⟨eq, rfl, by
        rw [← HDN.out, HSZ, ← HEQ]
        simp only [beq_iff_eq]
        omega⟩
      go_wp2_with (first
        | (at_len; refine wpList_len_own _ rfl _ 181 rfl 9 3 Tryz.underlying181 _ G i D rfl OW.out ?_; rw [HSZ]))
      go_ret
      exact ⟨FIN.out, by rw [HG.out]; exact HB.out⟩
end Go.Proofs.YtikmbjfambjmaaaGreatDoor
