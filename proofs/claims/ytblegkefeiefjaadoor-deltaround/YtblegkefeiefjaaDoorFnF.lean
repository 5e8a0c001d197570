/- The finder's 'split'. -/
import Derived.Test.YtblegkefeiefjaaDoorFnU
namespace Go.Proofs.YtblegkefeiefjaaDoor
open Go.RowKit Go.Maps
set_option linter.unusedVariables false
set_option linter.unusedSimpArgs false

def Fn.app (F : Fn) (l : Nat) (s : Option Nat) (e : Nat) : Fn := { F with N := F.N + 1, lon := upd F.lon F.N l, sh := upd F.sh F.N s, en := upd F.en F.N e, hd := upd F.hd F.N 0 }
def Fn.link (F : Fn) (a : Nat) (s : Option Nat) : Fn := { F with sh := upd F.sh a s }
theorem Gr.app {F : Fn} (h : Gr F) (l : Nat) (s : Option Nat) (e : Nat) : Gr (F.app l s e) := by
  refine ⟨h.K1, h.g1, fun e' h0 he => ?_, h.g3, fun s' hs' => ?_, h.g5⟩
  · obtain ⟨h1, h2, h3, h4⟩ := h.g2 e' h0 he
    exact ⟨Nat.lt_succ_of_lt h1, h2, Nat.lt_succ_of_lt h3, h4⟩
  · show upd F.hd F.N 0 s' < F.K ∧ (upd F.hd F.N 0 s' ≠ 0 → F.src (upd F.hd F.N 0 s') = s') ∧ ∀ e', upd F.hd F.N 0 s' < e' → e' < F.K → F.src e' ≠ s'
    by_cases hq : s' = F.N
    · rw [hq, upd_same]
      exact ⟨h.K1, fun hn => absurd rfl hn, fun e' a b => by have := (h.g2 e' a b).1; omega⟩
    · rw [upd_ne _ _ hq]
      have hs'' : s' < F.N + 1 := hs'
      exact h.g4 s' (by omega)
theorem Gr.link {F : Fn} (h : Gr F) (a : Nat) (s : Option Nat) : Gr (F.link a s) := ⟨h.K1, h.g1, h.g2, h.g3, h.g4, h.g5⟩
section
variable {B g : Nat} {w : World} {F : Fn}
theorem Rep.app (h : Rep B w g F) {wx w1 : World} {l e : Nat} {s : Option Nat} (hx : w.grownBy wx none) (hg : wx.grownBy w1 (some F.sb))
    (ho : w1.ownsRow B 103 4 (.slice (some ⟨F.sb, 0, none⟩) (F.N + 1 : Nat) F.cs) (F.N + 1) (rowL F.stv F.N 4 ++ [.int .i32 l, .int .i32 (shI s), .int .i32 e, .int .i32 0])) :
    Rep B (w1.setCell ⟨g, 0, none⟩ (.slice (some ⟨F.sb, 0, none⟩) (F.N + 1 : Nat) F.cs)) g (F.app l s e) ∧ Below B w (w1.setCell ⟨g, 0, none⟩ (.slice (some ⟨F.sb, 0, none⟩) (F.N + 1 : Nat) F.cs)) ∧
      w1.cell? ⟨g, 0, none⟩ = w.cell? ⟨g, 0, none⟩ ∧ (∀ s k, s < F.N → k < 4 → w1.cell? ⟨F.sb, s * 4 + k, none⟩ = some (F.stv s k)) ∧ w1.frozen? ⟨g, 0, none⟩ = false := by
  obtain ⟨a1, a2, a3, a4, a5, a6⟩ := h.ap
  have hs1 := hx.size
  have hs2 := hg.size
  have blk : ∀ k, k < w.heap.size → k ≠ F.sb → w1.heap[k]? = w.heap[k]? := fun k hk hne => (hg.block k (by omega) (by simpa using hne)).trans (hx.block k hk (by simp))
  have hstv : ∀ s' k, s' < F.N → (F.app l s e).stv s' k = F.stv s' k := fun s' k hs' => by
    simp only [Fn.stv, Fn.app, upd, show ¬ s' = F.N by omega, if_false]
  have hrow : rowL (F.app l s e).stv (F.N + 1) 4 = rowL F.stv F.N 4 ++ [.int .i32 l, .int .i32 (shI s), .int .i32 e, .int .i32 0] := by
    rw [rowL_succ _ _ _ (by omega)]
    congr 1
    · unfold rowL
      refine List.map_congr_left fun i hi => ?_
      have hi' := List.mem_range.1 hi
      exact hstv _ _ ((Nat.div_lt_iff_lt_mul (by omega)).2 hi')
    · simp [Fn.stv, Fn.app, upd, List.range_succ]
  rw [← hrow] at ho
  obtain ⟨sb, hsb, hBe, hr⟩ := Row.of_owns (v := .nilIface) (by omega) ho
  simp only [Option.some.injEq, Addr.mk.injEq, and_true] at hsb
  subst hsb
  have e1 := blk g h.glt a1
  have e2 := blk F.eb h.ed.lt (Ne.symm a4)
  have e3 := blk F.mb h.mp.lt (Ne.symm a5)
  have f1 : ∀ (v : Value) k, k ≠ g → (w1.setCell ⟨g, 0, none⟩ v).heap[k]? = w1.heap[k]? := fun v k hk => Below.heap_setCell w1 _ v k hk
  refine ⟨⟨?_, ?_, ?_, ?_, h.Bg, h.Bs, h.Be, h.Bm, h.csl, h.mnl⟩, ⟨?_, ?_, ?_, ?_, ?_⟩, World.cell?_of_block (a := ⟨g, 0, none⟩) e1, fun s' k hs' hk => ?_, (World.frozen?_of_block (a := ⟨g, 0, none⟩) e1).trans (h.fz 0)⟩
  · rw [heap_set w1 g 0 _ (e1.trans h.fin)]
    simp [Fn.obj, Fn.app]
  · exact hr.kept (f1 _ _ (Ne.symm a1))
  · exact h.ed.kept ((f1 _ _ (Ne.symm a2)).trans e2)
  · exact h.mp.kept ((f1 _ _ (Ne.symm a3)).trans e3)
  · exact hg.os.trans hx.os
  · exact hg.tape.trans hx.tape
  · exact hg.output.trans hx.output
  · simp [World.setCell]; omega
  · intro k hk
    have := h.Bg; have := h.Bs; have := h.glt
    exact (f1 _ _ (by omega)).trans (blk k (by omega) (by omega))
  · rw [hr.cell (by omega) hk, hstv s' k hs']
theorem Rep.link (h : Rep B w g F) {a : Nat} (s : Option Nat) (ha : a < F.N) : Rep B (w.setCell ⟨F.sb, a * 4 + 1, none⟩ (.int .i32 (shI s))) g (F.link a s) ∧ Below B w (w.setCell ⟨F.sb, a * 4 + 1, none⟩ (.int .i32 (shI s))) := by
  obtain ⟨a1, a2, a3, a4, a5, a6⟩ := h.ap
  have f1 : ∀ k, k ≠ F.sb → (w.setCell ⟨F.sb, a * 4 + 1, none⟩ (.int .i32 (shI s))).heap[k]? = w.heap[k]? := fun k hk => Below.heap_setCell w _ _ k hk
  refine ⟨⟨(f1 g a1).trans h.fin, (h.st.set ha (by omega) _).congr (fun s' k' hs' hk' => ?_), h.ed.kept (f1 _ (Ne.symm a4)), h.mp.kept (f1 _ (Ne.symm a5)), h.Bg, h.Bs, h.Be, h.Bm, h.csl, h.mnl⟩, (Below.refl _ _).setCell h.Bs _⟩
  by_cases hq : s' = a ∧ k' = 1
  · obtain ⟨rfl, rfl⟩ := hq
    simp [Fn.stv, Fn.link, upd]
  · rw [if_neg hq]
    have hk : k' = 0 ∨ k' = 1 ∨ k' = 2 ∨ k' = 3 := by omega
    rcases hk with rfl | rfl | rfl | rfl
    · rfl
    · have hne : s' ≠ a := fun e => hq ⟨e, rfl⟩
      simp [Fn.stv, Fn.link, upd, hne]
    · rfl
    · rfl
end
theorem new4 (w : World) (a b c d : Value) (t : TypeId) : ∀ j u, [a, b, c, d][j]? = some u → (w.alloc (.cells #[a, b, c, d] t)).cell? ((⟨w.heap.size, 0, none⟩ : Addr).add j) = some u := by
  intro j u hj
  rw [addr_add, Nat.zero_add]
  have hh : (w.alloc (.cells #[a, b, c, d] t)).heap[w.heap.size]? = some (.cells #[a, b, c, d] t) := by
    show (w.heap.push _)[w.heap.size]? = _
    simp
  simp only [World.cell?, hh]
  simpa using hj
theorem step_append_fits {P : Program} (w : World) {ops : Array Oper} {o : Oper} {a : Act} {K : Act → World → Prop} {Q : Exit → Act → World → Prop} {E : Prop} (hgd : o.guard = none) (s x : Operand) (t : TypeId)
    (ho : o.op = .call { callee := .builtin .append, args := #[s, x], argTypes := #[t, t] })
    (base : Nat) (e : TypeId) (i : TypeInfo) (size : Nat) (h1 : P.underlying t = some (.slice e)) (h2 : P.info? e = some i) (h4 : i.size = size)
    (g k cap : Nat) (xs : List Value) (hs : a.eval s = .slice (some ⟨g, 0, none⟩) k cap) (hown : w.ownsRow base e size (.slice (some ⟨g, 0, none⟩) k cap) k xs) (ad : Addr) (m c : Nat) (news : List Value) (hx : a.eval x = .slice (some ad) m c) (hn : news.length = m * size)
    (hc : ∀ j u, news[j]? = some u → w.cell? (ad.add j) = some u) (h1c : ∀ u ∈ news, u.oneCell' = true) (b1 : k + m ≤ cap)
    (h : ∀ w', w'.ownsRow base e size (.slice (some ⟨g, 0, none⟩) (k + m : Nat) cap) (k + m) (xs ++ news) → w.grownBy w' (some g) → K (a.put o.dst (.slice (some ⟨g, 0, none⟩) (k + m : Nat) cap)) w') :
    if Region.wanted o (yielded ops a.tmps) = true then Oper.wp P o a w K Q else E := by
  have hw : Region.wanted o (yielded ops a.tmps) = true := by simp [Region.wanted, hgd]
  rw [if_pos hw]
  obtain ⟨w', hrun, r1, r2⟩ := run_append_fits (P := P) w base t o.type e i size h1 h2 h4 g k cap xs hown ad m c news hn hc h1c b1
  unfold Oper.wp execOp
  simp only [ho, resolve, invoke, builtin, Sem.run_bind, Sem.run_pure, Result.andThen_ok, List.map_toArray, List.map_cons, List.map_nil, hs, hx, hrun]
  exact h w' r1 r2
theorem drew_tail {P : Program} {id : Nat} {Q : Exit → Act → World → Prop} {a : Act} {w : World} {l : List Oper} (n : Nat) (hm : P.follows .mixedOrders = true) (hB : Region.lexTailB .any l.toArray n = true)
    (h : wpStill P l.toArray w.drew (fun a' => wpList P l.toArray Q (l.drop n) a' w.drew) (l.take n) a) : (Code.region id l.toArray true).wp P Q a w := wp_region_still_tail n hm hB h
theorem still_free {P : Program} {ops : Array Oper} {w : World} {Q : Act → Prop} {a : Act} {o : Oper} {rest : List Oper} (hg : o.guard = none) (h : ∀ K : Act → Prop, (∀ a, wpStill P ops w Q rest a → K a) → o.still P a w K) : wpStill P ops w Q (o :: rest) a := by
  unfold wpStill; rw [if_pos (by simp [Region.wanted, hg])]; exact h _ (fun _ h => h)
theorem enter40 (v1 v2 v3 : Value) (w : World) : (callFunc 40 #[v1, v2, v3]).run Tryd.prog w = .ok (.enter 40 #[v1, v2, v3]) w := by kernel_rfl
theorem enter42 (v1 v2 v3 v4 : Value) (w : World) : (callFunc 42 #[v1, v2, v3, v4]).run Tryd.prog w = .ok (.enter 42 #[v1, v2, v3, v4]) w := by kernel_rfl
/-- The states' part of a split. -/
def Fn.cl (F : Fn) (p to : Nat) : Fn := (F.app (F.lon p + 1) (F.sh to) (F.en to)).link to (some F.N)
set_option maxRecDepth 10000 in
set_option maxHeartbeats 4000000 in
theorem split_any {B g : Nat} {F : Fn} (p x to : Nat) (hx : x < 256) (w : World) (hR : Rep B w g F) (hG : Gr F) (hp : p < F.N) (hm : F.m p x ≠ 0) (hto : F.to (F.m p x) = to) (hto0 : to ≠ 0) (hlp : F.lon p ≤ 1000000) (hfit : F.N + 1 ≤ F.cs)
    (hch : ∀ q p, q < F.N → F.sh q = some p → p < F.N ∧ F.lon p < F.lon q) (hle : F.lon p + 1 ≤ F.lon to) (hlt : F.lon to ≤ 1000000) (hlk : ∀ r, F.sh to = some r → F.lon r < F.lon p + 1) :
    Calls Tryd.prog 43 #[.pointer (some ⟨g, 0, none⟩), .int .i32 p, .int .u8 x] w fun e w' => Below B w w' ∧
      ((F.lon to = F.lon p + 1 ∧ e = .returned (.int .i32 to) ∧ Rep B w' g F) ∨
       (F.lon to ≠ F.lon p + 1 ∧ e = .returned (.int .i32 F.N) ∧ ∃ F2 F', CopyI (F.cl p to) F2 F.N to 0 ∧ Lead x to F.N (some p) F2 F' ∧ Rep B w' g F')) := by
  obtain ⟨i, hi, hz0, hz1, hz2⟩ := info_parts Tryd.info103
  have htN : to < F.N := by rw [← hto]; exact (hG.g2 _ (by omega) (hG.g1 _ _ hm).1).2.2.1
  have hKb : F.K ≤ 100000000 := by have := hG.bound; have := hR.st.le; have := hR.csl; omega
  have heK := (hG.g1 _ _ hm).1
  have HR : Hid _ := hR
  have HG : Hid _ := hG
  have HCH : Hid _ := hch
  have HLK : Hid _ := hlk
  obtain ⟨e, HE⟩ : ∃ e, Hid (e = F.m p x) := ⟨_, rfl⟩
  obtain ⟨N, HN⟩ : ∃ N, Hid (N = F.N) := ⟨_, rfl⟩
  obtain ⟨K, HK⟩ : ∃ K, Hid (K = F.K) := ⟨_, rfl⟩
  obtain ⟨lp, HLP⟩ : ∃ lp, Hid (lp = F.lon p) := ⟨_, rfl⟩
  obtain ⟨lt, HLT⟩ : ∃ lt, Hid (lt = F.lon to) := ⟨_, rfl⟩
  have EE : Hid (∀ w', Rep B w' g F → _) := fun w' (h : Rep B w' g F) => edge_any p x (by have := h.st.le; have := h.csl; omega) hx w' h
  rw [← HE.out] at EE heK
  have c0 := hR.c0
  have c1 := hR.c1
  have ce := hR.ed.cell heK (show 0 < 3 by omega)
  rw [Nat.add_zero, show F.edv e 0 = .int .i32 to by rw [HE.out, ← hto]; rfl] at ce
  have cp := hR.st.cell hp (show 0 < 4 by omega)
  rw [Nat.add_zero, show F.stv p 0 = .int .i32 lp by rw [HLP.out]; rfl] at cp
  have ct := hR.st.cell htN (show 0 < 4 by omega)
  rw [Nat.add_zero, show F.stv to 0 = .int .i32 lt by rw [HLT.out]; rfl] at ct
  have hNl : F.N ≤ 300000 := by have := hR.st.le; have := hR.csl; omega
  rw [← HN.out] at c0 hp htN hNl hfit
  rw [← HK.out] at c1 heK hKb
  rw [← HLP.out] at hlp hle
  rw [← HLT.out] at hle hlt
  clear hR hG hch hlk hm hto
  go_enter Tryd.func43, Tryd.ntmps43
  go_wp2_with fail
  refine wp_region_held_drew (S := fun w' => w'.cell? ⟨g, 1, none⟩ = some (.slice (some ⟨F.eb, 0, none⟩) K F.ce) ∧ w'.cell? ⟨F.eb, e * 3, none⟩ = some (.int .i32 to)) (by kernel_rfl) ⟨c1, ce⟩ (fun hHeld => ?_)
  refine takeL (i := 0) (v := ?_) rfl (by kernel_rfl) (by kernel_rfl) (by kernel_rfl) (fun _ _ _ h => h) (Or.inl ⟨by rfl, ?_⟩) hHeld ?_
  rotate_left
  · rintro w' ⟨s0, s1⟩; go_simp; rfl
  try simp only [Act.put, List.setIfInBounds_toArray, List.set_cons_zero, List.set_cons_succ]
  refine takeL (i := 1) (v := ?_) rfl (by kernel_rfl) (by kernel_rfl) (by kernel_rfl) (fun _ _ _ h => h) (Or.inl ⟨by rfl, ?_⟩) hHeld ?_
  rotate_left
  · rintro w' ⟨s0, s1⟩; go_simp; rfl
  try simp only [Act.put, List.setIfInBounds_toArray, List.set_cons_zero, List.set_cons_succ]
  refine takeL (i := 2) (v := ?_) rfl (by kernel_rfl) (by kernel_rfl) (by kernel_rfl) (fun _ _ _ h => h) (Or.inl ⟨by rfl, ?_⟩) hHeld ?_
  rotate_left
  · rintro w' ⟨s0, s1⟩; go_simp; rfl
  try simp only [Act.put, List.setIfInBounds_toArray, List.set_cons_zero, List.set_cons_succ]
  refine takeL (i := 3) (v := ?_) rfl (by kernel_rfl) (by kernel_rfl) (by kernel_rfl) (fun _ _ _ h => h) (Or.inl ⟨by rfl, ?_⟩) hHeld ?_
  rotate_left
  · rintro w' ⟨s0, s1⟩; go_simp; rfl
  try simp only [Act.put, List.setIfInBounds_toArray, List.set_cons_zero, List.set_cons_succ]
  refine takeL (i := 4) (v := ?_) rfl (by kernel_rfl) (by kernel_rfl) (by kernel_rfl) (fun _ _ _ h => h) (Or.inl ⟨by rfl, ?_⟩) hHeld ?_
  rotate_left
  · rintro w' ⟨s0, s1⟩; go_simp; rfl
  try simp only [Act.put, List.setIfInBounds_toArray, List.set_cons_zero, List.set_cons_succ]
  refine takeL (i := 5) (v := ?_) rfl (by kernel_rfl) (by kernel_rfl) (by kernel_rfl) (fun _ _ _ h => h) (Or.inl ⟨by rfl, ?_⟩) hHeld ?_
  rotate_left
  · rintro w' ⟨s0, s1⟩; go_simp; rfl
  try simp only [Act.put, List.setIfInBounds_toArray, List.set_cons_zero, List.set_cons_succ]
  refine takeL (i := 6) (v := ?_) rfl (by kernel_rfl) (by kernel_rfl) (by kernel_rfl) (fun _ _ _ h => h) (Or.inl ⟨by rfl, ?_⟩) hHeld ?_
  rotate_left
  · rintro w' ⟨s0, s1⟩; go_simp; rfl
  try simp only [Act.put, List.setIfInBounds_toArray, List.set_cons_zero, List.set_cons_succ]
  refine wpAnyH_ready (rs := [7]) (by kernel_rfl) (by simp) ?_
  refine consL rfl (fun KK hKK => ?_) AllReadyH.nil
  refine step_callv (by rfl) 40 [.tmp 15, .tmp 16, .tmp 17] _ [.pointer (some ⟨g, 0, none⟩), .int .i32 p, .int .u8 x] _ (by rfl) (by rfl) (enter40 _ _ _) (EE.out _ (HR.out.drewN 1)) ?_
  rintro ev w1 ⟨rfl, nq, rfl⟩
  refine ⟨_, rfl, ?_⟩
  have hHeld2 : (w.drew.drewN nq).cell? ⟨g, 1, none⟩ = some (.slice (some ⟨F.eb, 0, none⟩) K F.ce) ∧ (w.drew.drewN nq).cell? ⟨F.eb, e * 3, none⟩ = some (.int .i32 to) := ⟨c1, ce⟩
  refine hKK.out _ _ hHeld2 (fun _ => ?_)
  clear hKK KK
  try simp only [Act.put, List.setIfInBounds_toArray, List.set_cons_zero, List.set_cons_succ]
  refine takeL (i := 8) (v := ?_) rfl (by kernel_rfl) (by kernel_rfl) (by kernel_rfl) (fun _ _ _ h => h) (Or.inl ⟨by rfl, ?_⟩) hHeld2 ?_
  rotate_left
  · rintro w' ⟨s0, s1⟩; go_simp; rfl
  try simp only [Act.put, List.setIfInBounds_toArray, List.set_cons_zero, List.set_cons_succ]
  refine takeL (i := 9) (v := ?_) rfl (by kernel_rfl) (by kernel_rfl) (by kernel_rfl) (fun _ _ _ h => h) (Or.inl ⟨by rfl, ?_⟩) hHeld2 ?_
  rotate_left
  · rintro w' ⟨s0, s1⟩; go_simp; rfl
  try simp only [Act.put, List.setIfInBounds_toArray, List.set_cons_zero, List.set_cons_succ]
  refine takeL (i := 10) (v := ?_) rfl (by kernel_rfl) (by kernel_rfl) (by kernel_rfl) (fun _ _ _ h => h) (Or.inl ⟨by rfl, ?_⟩) hHeld2 ?_
  rotate_left
  · rintro w' ⟨s0, s1⟩; go_simp; rfl
  try simp only [Act.put, List.setIfInBounds_toArray, List.set_cons_zero, List.set_cons_succ]
  refine takeL (i := 11) (v := ?_) rfl (by kernel_rfl) (by kernel_rfl) (by kernel_rfl) (fun _ _ _ h => h) (Or.inl ⟨by rfl, ?_⟩) hHeld2 ?_
  rotate_left
  · rintro w' ⟨s0, s1⟩; go_simp; rfl
  try simp only [Act.put, List.setIfInBounds_toArray, List.set_cons_zero, List.set_cons_succ]
  refine wpAnyH_done (by kernel_rfl) ?_ _
  have HRA : Hid (Rep B (w.drew.drewN nq) g F) := (HR.out.drewN 1).drewN nq
  have HBA : Hid (Below B w (w.drew.drewN nq)) := below_drewN (below_drewN (Below.refl _ _) 1) nq
  have c0 : (w.drew.drewN nq).cell? ⟨g, 0, none⟩ = some (.slice (some ⟨F.sb, 0, none⟩) N F.cs) := c0
  have cp : (w.drew.drewN nq).cell? ⟨F.sb, p * 4, none⟩ = some (.int .i32 lp) := cp
  have ct : (w.drew.drewN nq).cell? ⟨F.sb, to * 4, none⟩ = some (.int .i32 lt) := ct
  clear hHeld hHeld2
  obtain ⟨wA, HWA⟩ : ∃ wA, Hid (w.drew.drewN nq = wA) := ⟨_, rfl⟩
  rw [HWA.out] at HRA HBA c0 cp ct ⊢
  clear HWA
  by_cases hs : lt = lp + 1
  · have hsI : (lt : Int) = (lp : Int) + 1 := by omega
    go_wp2_with fail
    go_ret
    exact ⟨HBA.out, .inl ⟨by rw [← HLT.out, ← HLP.out]; exact hs, rfl, HRA.out⟩⟩
  · have hsI : ¬ (lt : Int) = (lp : Int) + 1 := by omega
    go_wp2_with fail
    obtain ⟨so, HSO⟩ : ∃ so, Hid (so = F.sh to) := ⟨_, rfl⟩
    obtain ⟨et, HET⟩ : ∃ et, Hid (et = F.en to) := ⟨_, rfl⟩
    have htN' : to < F.N := by rw [← HN.out]; exact htN
    have cts := HRA.out.st.cell htN' (show 1 < 4 by omega)
    rw [show F.stv to 1 = .int .i32 (shI so) by rw [HSO.out]; rfl] at cts
    have cte := HRA.out.st.cell htN' (show 2 < 4 by omega)
    rw [show F.stv to 2 = .int .i32 et by rw [HET.out]; rfl] at cte
    have HOW : Hid (wA.drew.ownsRow B 103 4 (.slice (some ⟨F.sb, 0, none⟩) N F.cs) N (rowL F.stv N 4)) := by rw [HN.out]; exact HRA.out.st.owns (show 0 < 4 by omega) HRA.out.Bs
    have hS0 : wA.drew.cell? ⟨g, 0, none⟩ = some (.slice (some ⟨F.sb, 0, none⟩) N F.cs) ∧ wA.drew.cell? ⟨F.sb, to * 4 + 1, none⟩ = some (.int .i32 (shI so)) ∧ wA.drew.cell? ⟨F.sb, to * 4 + 2, none⟩ = some (.int .i32 et) := ⟨c0, cts, cte⟩
    refine region_U (fun w' => w'.cell? ⟨g, 0, none⟩ = some (.slice (some ⟨F.sb, 0, none⟩) N F.cs) ∧ w'.cell? ⟨F.sb, to * 4 + 1, none⟩ = some (.int .i32 (shI so)) ∧ w'.cell? ⟨F.sb, to * 4 + 2, none⟩ = some (.int .i32 et)) 27 (by kernel_rfl) ?_
    refine takeU (i := 0) (v := ?_) rfl (by kernel_rfl) (by kernel_rfl) (by kernel_rfl) (by kernel_rfl) (fun _ _ _ h => h) (Or.inl ⟨by rfl, ?_⟩) hS0 ?_
    rotate_left
    · rintro w' ⟨s0, s1, s2⟩; go_simp; rfl
    try simp only [Act.put, List.setIfInBounds_toArray, List.set_cons_zero, List.set_cons_succ]
    refine takeU (i := 1) (v := ?_) rfl (by kernel_rfl) (by kernel_rfl) (by kernel_rfl) (by kernel_rfl) (fun _ _ _ h => h) (Or.inl ⟨by rfl, ?_⟩) hS0 ?_
    rotate_left
    · rintro w' ⟨s0, s1, s2⟩; go_simp; rfl
    try simp only [Act.put, List.setIfInBounds_toArray, List.set_cons_zero, List.set_cons_succ]
    refine takeU (i := 2) (v := ?_) rfl (by kernel_rfl) (by kernel_rfl) (by kernel_rfl) (by kernel_rfl) (fun _ _ _ h => h) (Or.inl ⟨by rfl, ?_⟩) hS0 ?_
    rotate_left
    · rintro w' ⟨s0, s1, s2⟩; go_simp; rfl
    try simp only [Act.put, List.setIfInBounds_toArray, List.set_cons_zero, List.set_cons_succ]
    refine takeU (i := 3) (v := ?_) rfl (by kernel_rfl) (by kernel_rfl) (by kernel_rfl) (by kernel_rfl) (fun _ _ _ h => h) (Or.inl ⟨by rfl, ?_⟩) hS0 ?_
    rotate_left
    · rintro w' ⟨s0, s1, s2⟩; go_simp; rfl
    try simp only [Act.put, List.setIfInBounds_toArray, List.set_cons_zero, List.set_cons_succ]
    refine takeU (i := 4) (v := ?_) rfl (by kernel_rfl) (by kernel_rfl) (by kernel_rfl) (by kernel_rfl) (fun _ _ _ h => h) (Or.inl ⟨by rfl, ?_⟩) hS0 ?_
    rotate_left
    · rintro w' ⟨s0, s1, s2⟩; go_simp; rfl
    try simp only [Act.put, List.setIfInBounds_toArray, List.set_cons_zero, List.set_cons_succ]
    refine takeU (i := 5) (v := ?_) rfl (by kernel_rfl) (by kernel_rfl) (by kernel_rfl) (by kernel_rfl) (fun _ _ _ h => h) (Or.inl ⟨by rfl, ?_⟩) hS0 ?_
    rotate_left
    · rintro w' ⟨s0, s1, s2⟩; go_simp; rfl
    try simp only [Act.put, List.setIfInBounds_toArray, List.set_cons_zero, List.set_cons_succ]
    refine takeU (i := 6) (v := ?_) rfl (by kernel_rfl) (by kernel_rfl) (by kernel_rfl) (by kernel_rfl) (fun _ _ _ h => h) (Or.inl ⟨by rfl, ?_⟩) hS0 ?_
    rotate_left
    · rintro w' ⟨s0, s1, s2⟩; go_simp; rfl
    try simp only [Act.put, List.setIfInBounds_toArray, List.set_cons_zero, List.set_cons_succ]
    refine takeU (i := 7) (v := ?_) rfl (by kernel_rfl) (by kernel_rfl) (by kernel_rfl) (by kernel_rfl) (fun _ _ _ h => h) (Or.inl ⟨by rfl, ?_⟩) hS0 ?_
    rotate_left
    · rintro w' ⟨s0, s1, s2⟩; go_simp; rfl
    try simp only [Act.put, List.setIfInBounds_toArray, List.set_cons_zero, List.set_cons_succ]
    refine takeU (i := 8) (v := ?_) rfl (by kernel_rfl) (by kernel_rfl) (by kernel_rfl) (by kernel_rfl) (fun _ _ _ h => h) (Or.inl ⟨by rfl, ?_⟩) hS0 ?_
    rotate_left
    · rintro w' ⟨s0, s1, s2⟩; go_simp; rfl
    try simp only [Act.put, List.setIfInBounds_toArray, List.set_cons_zero, List.set_cons_succ]
    refine takeU (i := 9) (v := ?_) rfl (by kernel_rfl) (by kernel_rfl) (by kernel_rfl) (by kernel_rfl) (fun _ _ _ h => h) (Or.inl ⟨by rfl, ?_⟩) hS0 ?_
    rotate_left
    · rintro w' ⟨s0, s1, s2⟩; go_simp; rfl
    try simp only [Act.put, List.setIfInBounds_toArray, List.set_cons_zero, List.set_cons_succ]
    refine takeU (i := 10) (v := ?_) rfl (by kernel_rfl) (by kernel_rfl) (by kernel_rfl) (by kernel_rfl) (fun _ _ _ h => h) (Or.inl ⟨by rfl, ?_⟩) hS0 ?_
    rotate_left
    · rintro w' ⟨s0, s1, s2⟩; go_simp; rfl
    try simp only [Act.put, List.setIfInBounds_toArray, List.set_cons_zero, List.set_cons_succ]
    refine takeU (i := 11) (v := ?_) rfl (by kernel_rfl) (by kernel_rfl) (by kernel_rfl) (by kernel_rfl) (fun _ _ _ h => h) (Or.inl ⟨by rfl, ?_⟩) hS0 ?_
    rotate_left
    · rintro w' ⟨s0, s1, s2⟩; go_simp; rfl
    try simp only [Act.put, List.setIfInBounds_toArray, List.set_cons_zero, List.set_cons_succ]
    refine takeU (i := 12) (v := ?_) rfl (by kernel_rfl) (by kernel_rfl) (by kernel_rfl) (by kernel_rfl) (fun _ _ _ h => h) (Or.inl ⟨by rfl, ?_⟩) hS0 ?_
    rotate_left
    · rintro w' ⟨s0, s1, s2⟩; go_simp; rfl
    try simp only [Act.put, List.setIfInBounds_toArray, List.set_cons_zero, List.set_cons_succ]
    refine takeU (i := 13) (v := ?_) rfl (by kernel_rfl) (by kernel_rfl) (by kernel_rfl) (by kernel_rfl) (fun _ _ _ h => h) (Or.inl ⟨by rfl, ?_⟩) hS0 ?_
    rotate_left
    · rintro w' ⟨s0, s1, s2⟩; go_simp; rfl
    try simp only [Act.put, List.setIfInBounds_toArray, List.set_cons_zero, List.set_cons_succ]
    refine takeU (i := 14) (v := ?_) rfl (by kernel_rfl) (by kernel_rfl) (by kernel_rfl) (by kernel_rfl) (fun _ _ _ h => h) (Or.inl ⟨by rfl, ?_⟩) hS0 ?_
    rotate_left
    · rintro w' ⟨s0, s1, s2⟩; go_simp; rfl
    try simp only [Act.put, List.setIfInBounds_toArray, List.set_cons_zero, List.set_cons_succ]
    refine takeU (i := 15) (v := ?_) rfl (by kernel_rfl) (by kernel_rfl) (by kernel_rfl) (by kernel_rfl) (fun _ _ _ h => h) (Or.inl ⟨by rfl, ?_⟩) hS0 ?_
    rotate_left
    · rintro w' ⟨s0, s1, s2⟩; go_simp; rfl
    try simp only [Act.put, List.setIfInBounds_toArray, List.set_cons_zero, List.set_cons_succ]
    refine takeU (i := 16) (v := ?_) rfl (by kernel_rfl) (by kernel_rfl) (by kernel_rfl) (by kernel_rfl) (fun _ _ _ h => h) (Or.inl ⟨by rfl, ?_⟩) hS0 ?_
    rotate_left
    · rintro w' ⟨s0, s1, s2⟩; go_simp; rfl
    try simp only [Act.put, List.setIfInBounds_toArray, List.set_cons_zero, List.set_cons_succ]
    refine takeU (i := 17) (v := ?_) rfl (by kernel_rfl) (by kernel_rfl) (by kernel_rfl) (by kernel_rfl) (fun _ _ _ h => h) (Or.inl ⟨by rfl, ?_⟩) hS0 ?_
    rotate_left
    · rintro w' ⟨s0, s1, s2⟩; go_simp; rfl
    try simp only [Act.put, List.setIfInBounds_toArray, List.set_cons_zero, List.set_cons_succ]
    refine takeU (i := 18) (v := ?_) rfl (by kernel_rfl) (by kernel_rfl) (by kernel_rfl) (by kernel_rfl) (fun _ _ _ h => h) (Or.inl ⟨by rfl, ?_⟩) hS0 ?_
    rotate_left
    · rintro w' ⟨s0, s1, s2⟩; go_simp; rfl
    try simp only [Act.put, List.setIfInBounds_toArray, List.set_cons_zero, List.set_cons_succ]
    refine takeU (i := 19) (v := ?_) rfl (by kernel_rfl) (by kernel_rfl) (by kernel_rfl) (by kernel_rfl) (fun _ _ _ h => h) (Or.inl ⟨by rfl, ?_⟩) hS0 ?_
    rotate_left
    · rintro w' ⟨s0, s1, s2⟩; go_simp; rfl
    try simp only [Act.put, List.setIfInBounds_toArray, List.set_cons_zero, List.set_cons_succ]
    refine takeU (i := 20) (v := ?_) rfl (by kernel_rfl) (by kernel_rfl) (by kernel_rfl) (by kernel_rfl) (fun _ _ _ h => h) (Or.inl ⟨by rfl, ?_⟩) hS0 ?_
    rotate_left
    · rintro w' ⟨s0, s1, s2⟩; go_simp; rfl
    try simp only [Act.put, List.setIfInBounds_toArray, List.set_cons_zero, List.set_cons_succ]
    refine takeU (i := 21) (v := ?_) rfl (by kernel_rfl) (by kernel_rfl) (by kernel_rfl) (by kernel_rfl) (fun _ _ _ h => h) (Or.inl ⟨by rfl, ?_⟩) hS0 ?_
    rotate_left
    · rintro w' ⟨s0, s1, s2⟩; go_simp; rfl
    try simp only [Act.put, List.setIfInBounds_toArray, List.set_cons_zero, List.set_cons_succ]
    refine takeU (i := 22) (v := ?_) rfl (by kernel_rfl) (by kernel_rfl) (by kernel_rfl) (by kernel_rfl) (fun _ _ _ h => h) (Or.inl ⟨by rfl, ?_⟩) hS0 ?_
    rotate_left
    · rintro w' ⟨s0, s1, s2⟩; go_simp; rfl
    try simp only [Act.put, List.setIfInBounds_toArray, List.set_cons_zero, List.set_cons_succ]
    have HX : Hid (wA.grownBy (wA.drew.alloc (.cells #[.int .i32 ((lp : Int) + 1), .int .i32 (shI so), .int .i32 et, .int .i32 0] 103)) none) := ⟨rfl, rfl, rfl, (World.grownBy_alloc wA.drew _ none).size, (World.grownBy_alloc wA.drew _ none).block⟩
    have hSx : (wA.drew.alloc (.cells #[.int .i32 ((lp : Int) + 1), .int .i32 (shI so), .int .i32 et, .int .i32 0] 103)).cell? ⟨g, 0, none⟩ = some (.slice (some ⟨F.sb, 0, none⟩) N F.cs) ∧ (wA.drew.alloc (.cells #[.int .i32 ((lp : Int) + 1), .int .i32 (shI so), .int .i32 et, .int .i32 0] 103)).cell? ⟨F.sb, to * 4 + 1, none⟩ = some (.int .i32 (shI so)) ∧ (wA.drew.alloc (.cells #[.int .i32 ((lp : Int) + 1), .int .i32 (shI so), .int .i32 et, .int .i32 0] 103)).cell? ⟨F.sb, to * 4 + 2, none⟩ = some (.int .i32 et) :=
      ⟨(World.cell?_alloc_some _ _ _ (by rw [hS0.1]; rfl)).trans hS0.1, (World.cell?_alloc_some _ _ _ (by rw [hS0.2.1]; rfl)).trans hS0.2.1, (World.cell?_alloc_some _ _ _ (by rw [hS0.2.2]; rfl)).trans hS0.2.2⟩
    have HNW : Hid _ := new4 wA.drew (.int .i32 ((lp : Int) + 1)) (.int .i32 (shI so)) (.int .i32 et) (.int .i32 0) 103
    have HOX : Hid (World.ownsRow _ B 103 4 (.slice (some ⟨F.sb, 0, none⟩) N F.cs) N (rowL F.stv N 4)) := HOW.out.alloc (.cells #[.int .i32 ((lp : Int) + 1), .int .i32 (shI so), .int .i32 et, .int .i32 0] 103)
    refine readyU1 (i := 23) (by kernel_rfl) (consU rfl (fun KK hKK => ?_))
    go_simp
    refine hKK.out _ _ (.inr hSx) ?_
    clear hKK KK
    try simp only [Act.put, List.setIfInBounds_toArray, List.set_cons_zero, List.set_cons_succ]
    refine readyU1 (i := 24) (by kernel_rfl) (consU rfl (fun KK hKK => ?_))
    refine step_append_fits _ (by rfl) _ _ _ (by rfl) B 103 i 4 Tryd.underlying97 hi hz1 F.sb N F.cs (rowL F.stv N 4) (by rfl) (by exact HOX.out) ⟨wA.heap.size, 0, none⟩ 1 1 [.int .i32 ((lp : Int) + 1), .int .i32 (shI so), .int .i32 et, .int .i32 0] (by rfl) (by simp) (by exact HNW.out) (by intro u hu; simp at hu; rcases hu with rfl | rfl | rfl | rfl <;> rfl) (by omega) ?_
    intro w1 ho hg
    have hpl : ((lp : Int) + 1) = ((lp + 1 : Nat) : Int) := by omega
    have HM := HRA.out.app (l := lp + 1) (s := so) (e := et) HX.out hg
    rw [← HN.out, ← hpl] at HM
    obtain ⟨hR2, hB2, e0, es, ez⟩ := HM ho
    have k0 := e0.trans c0
    have ks1 := es to 1 (by omega) (by omega)
    rw [show F.stv to 1 = .int .i32 (shI so) by rw [HSO.out]; rfl] at ks1
    have ks2 := es to 2 (by omega) (by omega)
    rw [show F.stv to 2 = .int .i32 et by rw [HET.out]; rfl] at ks2
    have HR2 : Hid _ := hR2
    have HB2 : Hid _ := hB2
    clear ho hg hR2 hB2 e0 es HM hpl
    have hS5 : w1.cell? ⟨g, 0, none⟩ = some (.slice (some ⟨F.sb, 0, none⟩) N F.cs) ∧ w1.cell? ⟨F.sb, to * 4 + 1, none⟩ = some (.int .i32 (shI so)) ∧ w1.cell? ⟨F.sb, to * 4 + 2, none⟩ = some (.int .i32 et) := ⟨k0, ks1, ks2⟩
    refine hKK.out _ _ (.inr hS5) ?_
    clear hKK KK
    try simp only [Act.put, List.setIfInBounds_toArray, List.set_cons_zero, List.set_cons_succ]
    refine readyU1 (i := 25) (by kernel_rfl) (consU rfl (fun KK hKK => ?_))
    go_simp
    refine hKK.out _ _ (.inr hS5) ?_
    clear hKK KK
    try simp only [Act.put, List.setIfInBounds_toArray, List.set_cons_zero, List.set_cons_succ]
    refine readyU1 (i := 26) (by kernel_rfl) (consU rfl (fun KK hKK => ?_))
    go_simp
    refine hKK.out _ _ (.inr hS5) ?_
    clear hKK KK
    try simp only [Act.put, List.setIfInBounds_toArray, List.set_cons_zero, List.set_cons_succ]
    refine readyU1 (i := 27) (by kernel_rfl) (consU rfl (fun KK hKK => ?_))
    go_simp
    refine hKK.out _ _ (.inl rfl) ?_
    clear hKK KK
    try simp only [Act.put, List.setIfInBounds_toArray, List.set_cons_zero, List.set_cons_succ]
    refine doneU (by kernel_rfl) ?_ _
    obtain ⟨w2, HW2⟩ : ∃ w2, Hid (w1.setCell ⟨g, 0, none⟩ (.slice (some ⟨F.sb, 0, none⟩) (N + 1 : Nat) F.cs) = w2) := ⟨_, rfl⟩
    rw [HW2.out] at HR2 HB2 ⊢
    clear HW2 hS0 hS5 hSx k0 ks1 ks2 ez c0 cp ct cts cte c1 ce
    have hto2 : to < (F.app (lp + 1) so et).N := by show to < F.N + 1; rw [← HN.out]; omega
    have d0 := HR2.out.c0
    have dt := HR2.out.st.cell hto2 (show 1 < 4 by omega)
    have ft := HR2.out.st.frozen (to * 4 + 1)
    simp only [Fn.app] at d0 dt ft
    rw [← HN.out] at d0
    have HR3 : Hid (Rep B (w2.setCell ⟨F.sb, to * 4 + 1, none⟩ (.int .i32 N)) g (F.cl p to)) := by
      have := (HR2.out.link (some N) hto2).1
      rw [HLP.out, HSO.out, HET.out, HN.out] at this
      rw [HN.out]
      exact this
    have HB3 : Hid (Below B w (w2.setCell ⟨F.sb, to * 4 + 1, none⟩ (.int .i32 N))) := HBA.out.trans (HB2.out.trans (HR2.out.link (some N) hto2).2)
    have d0' := HR3.out.c0
    have hto3 : to < (F.cl p to).N := by show to < F.N + 1; rw [← HN.out]; omega
    have dh := HR3.out.st.cell hto3 (show 3 < 4 by omega)
    obtain ⟨h0, HH0⟩ : ∃ h0, Hid (h0 = (F.cl p to).hd to) := ⟨_, rfl⟩
    rw [show (F.cl p to).stv to 3 = .int .i32 h0 by rw [HH0.out]; rfl] at dh
    simp only [Fn.cl, Fn.app, Fn.link] at d0' dh
    rw [← HN.out] at d0'
    go_wp2_with fail
    obtain ⟨w3, HW3⟩ : ∃ w3, Hid (w2.setCell ⟨F.sb, to * 4 + 1, none⟩ (.int .i32 N) = w3) := ⟨_, rfl⟩
    rw [HW3.out] at HR3 HB3 ⊢
    clear HW3 d0 dt ft d0' dh HR2 HB2 HX HNW HOX HOW HRA HBA EE
    have HG1 : Hid (Gr (F.cl p to)) := (HG.out.app _ _ _).link _ _
    have HZN : Hid (∀ y, (F.cl p to).m N y = 0) := fun y => by rw [HN.out]; exact HG.out.m_out (Nat.le_refl _) y
    have HH1 : Hid _ := HG1.out.g4 to hto3
    have hh0 : h0 < K := by rw [HH0.out, HK.out]; exact HH1.out.1
    have HS0 : Hid (h0 ≠ 0 → F.src h0 = to) := by rw [HH0.out]; exact HH1.out.2.1
    have HCS : Hid (CopyI (F.cl p to) (F.cl p to) N to h0) := by rw [HH0.out]; exact CopyI.start HG1.out hto3 HZN.out
    have HLE : Hid (F.lon p + 1 < F.lon to) := by show _ < _; rw [← HLP.out, ← HLT.out]; omega
    have HCH2 : Hid (∀ q r, q < F.N + 1 → (F.cl p to).sh q = some r → r < F.N + 1 ∧ (F.cl p to).lon r < (F.cl p to).lon q) := by
      intro q r hq hr
      have hr' : upd (upd F.sh F.N (F.sh to)) to (some F.N) q = some r := hr
      show r < F.N + 1 ∧ upd F.lon F.N (F.lon p + 1) r < upd F.lon F.N (F.lon p + 1) q
      by_cases hqt : q = to
      · rw [hqt, upd_same] at hr'
        cases hr'
        rw [upd_same, upd_ne _ _ (by omega)]
        exact ⟨by omega, by rw [hqt]; exact HLE.out⟩
      · rw [upd_ne _ _ hqt] at hr'
        by_cases hqN : q = F.N
        · rw [hqN, upd_same] at hr'
          obtain ⟨r1, r2⟩ := HCH.out to r htN' hr'
          rw [hqN, upd_same, upd_ne _ _ (by omega)]
          exact ⟨by omega, HLK.out r hr'⟩
        · rw [upd_ne _ _ hqN] at hr'
          obtain ⟨r1, r2⟩ := HCH.out q r (by omega) hr'
          rw [upd_ne _ _ hqN, upd_ne _ _ (by omega)]
          exact ⟨by omega, r2⟩
    clear hi hz0 hz1 hz2
    go_loopg [10] h0 (fun k v wr => ∃ (e : Nat) (F2 : Fn), v = .int .i32 e ∧ k = e ∧ e < K ∧ Hid (Rep B wr g F2) ∧ Hid (Below B w wr) ∧ Hid (CopyI (F.cl p to) F2 N to e) ∧ Hid (e ≠ 0 → F.src e = to))
    case atStart => exact ⟨h0, F.cl p to, rfl, rfl, hh0, HR3.out, HB3.out, HCS.out, HS0.out⟩
    case round =>
      obtain ⟨e1, F2, rfl, hk, heK1, HR4, HB4, HC4, HS4⟩ := hrel
      have HN2 : Hid (F2.N = F.N + 1) := HC4.out.same.N
      by_cases he0 : e1 = 0
      · subst he0
        have LD : Hid (Calls Tryd.prog 45 #[.pointer (some ⟨g, 0, none⟩), .int .i32 p, .int .u8 x, .int .i32 to, .int .i32 N] wr fun e w' => (∃ v, e = .returned v) ∧ ∃ F', Lead x to N (some p) F2 F' ∧ Rep B w' g F' ∧ Below B wr w') :=
          lead_any (some p) x to N hx wr HR4.out HC4.out.gr (by rw [HN2.out, HN.out]; omega) (fun q r hq hr => by
            rw [HN2.out] at hq ⊢
            rw [HC4.out.same.sh] at hr
            rw [HC4.out.same.lon]
            exact HCH2.out q r hq hr) (fun q hq => by cases hq; rw [HN2.out, ← HN.out]; omega) hto0 (by omega)
        go_wp2_with (go_at_call 45; refine LD.out.mono ?_; clear LD; rintro ev w5 ⟨⟨v, rfl⟩, F', hL, hR5, hB5⟩)
        go_ret
        refine ⟨HB4.out.trans hB5, .inr ⟨by rw [← HLT.out, ← HLP.out]; exact hs, by rw [← HN.out]; rfl, F2, F', ?_, ?_, hR5⟩⟩
        · rw [← HN.out]; exact HC4.out
        · rw [← HN.out]; exact hL
      · have he0I : ¬ (e1 : Int) = 0 := by omega
        have hpN : N ≠ to := by omega
        have ST := HC4.out.step HG1.out (by show N < F.N + 1; rw [HN.out]; omega) hpN (by omega) (by show e1 < F.K; rw [← HK.out]; exact heK1) (HS4.out he0)
        obtain ⟨z1, z2, z3, z4, z5, z6, -⟩ := ST 0 0
        have HST : Hid _ := fun eb ce => (ST eb ce).2.2.2.2.2.2
        have hKl : e1 < F2.K := by have := HC4.out.Kle; have h2 : (F.cl p to).K = F.K := rfl; rw [h2, ← HK.out] at this; omega
        have c1 := HR4.out.c1
        have cb := HR4.out.ed.cell hKl (show 2 < 3 by omega)
        have ct := HR4.out.ed.cell hKl (show 0 < 3 by omega)
        rw [Nat.add_zero] at ct
        obtain ⟨y, HY⟩ : ∃ y, Hid (y = F2.by_ e1) := ⟨_, rfl⟩
        obtain ⟨t, HT⟩ : ∃ t, Hid (t = F2.to e1) := ⟨_, rfl⟩
        obtain ⟨nx, HNX⟩ : ∃ nx, Hid (nx = (F.cl p to).nx e1) := ⟨_, rfl⟩
        rw [show F2.edv e1 2 = .int .u8 y by rw [HY.out]; rfl] at cb
        rw [show F2.edv e1 0 = .int .i32 t by rw [HT.out]; rfl] at ct
        have hK2 : F2.K ≤ 100000000 := by have := HC4.out.gr.bound; rw [HN2.out, ← HN.out] at this; omega
        have JN : Hid (∀ w', Rep B w' g F2 → _) := fun w' (h : Rep B w' g F2) => join_any N (F2.by_ e1) (F2.to e1) z2 w' h (by rw [HN2.out, HN.out]; omega) hK2
        rw [← HY.out, ← HT.out] at JN HST
        rw [← HNX.out] at z4 z5 z6 HST
        have HZ4 : Hid _ := z4
        have HZ6 : Hid _ := z6
        obtain ⟨K2, HK2⟩ : ∃ K2, Hid (K2 = F2.K) := ⟨_, rfl⟩
        rw [← HK2.out] at c1 hKl hK2
        clear z1 z2 z3 z4 z6 ST
        go_wp2_with fail
        refine drew_tail 18 (by kernel_rfl) (by kernel_rfl) ?_
        iterate 18 (refine still_free rfl (fun K hK => ?_); go_simp; refine hK _ ?_; clear hK K)
        refine wpStill_nil ?_
        go_wp2_with (go_at_call 42; refine (JN.out _ (HR4.out.drewN 1)).mono ?_; clear JN; rintro ev w5 ⟨⟨v, rfl⟩, eb, ce, hR5, hB5⟩; have HR5 : Hid _ := hR5; have HB5 : Hid _ := hB5; clear hR5 hB5; have d1 := HR5.out.c1; have dn := HR5.out.ed.cell (s := e1) (show e1 < F2.K + 1 by rw [← HK2.out]; omega) (show 1 < 3 by omega); rw [show (F2.join N y t eb ce).edv e1 1 = .int .i32 nx by rw [← HZ4.out]; show Value.int .i32 ((upd F2.nx F2.K (F2.hd N) e1 : Nat) : Int) = _; rw [upd_ne _ _ (by rw [← HK2.out]; omega)]] at dn; simp only [Fn.join, Fn.more, Fn.head, Fn.mapS] at d1 dn; rw [← HK2.out] at d1)
        go_roundg nx
        case measure => rw [hk]; exact z5
        case rel => exact ⟨nx, F2.join N y t eb ce, rfl, rfl, by omega, HR5.out, (below_drewN HB4.out 1).trans HB5.out, HST.out eb ce, HZ6.out⟩
end Go.Proofs.YtblegkefeiefjaaDoor
