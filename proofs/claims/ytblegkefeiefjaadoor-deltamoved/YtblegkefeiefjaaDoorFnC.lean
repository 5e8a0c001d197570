/- The finder's 'join'. -/
import Derived.Test.YtblegkefeiefjaaDoorFnB
namespace Go.Proofs.YtblegkefeiefjaaDoor
open Go.RowKit Go.Maps
set_option linter.unusedVariables false
set_option linter.unusedSimpArgs false

def upd {α : Type} (f : Nat → α) (i : Nat) (v : α) : Nat → α := fun j => if j = i then v else f j
theorem upd_same {α : Type} (f : Nat → α) (i : Nat) (v : α) : upd f i v i = v := by simp [upd]
theorem upd_ne {α : Type} (f : Nat → α) {i j : Nat} (v : α) (h : j ≠ i) : upd f i v j = f j := by simp [upd, h]
def Fn.more (F : Fn) (s x t eb ce : Nat) : Fn := { F with K := F.K + 1, eb := eb, ce := ce, to := upd F.to F.K t, nx := upd F.nx F.K (F.hd s), by_ := upd F.by_ F.K x, src := upd F.src F.K s }
def Fn.head (F : Fn) (s e : Nat) : Fn := { F with hd := upd F.hd s e }
def Fn.mapS (F : Fn) (s x e : Nat) : Fn := { F with mn := F.mn + 1, m := fun s' x' => if s' = s ∧ x' = x then e else F.m s' x' }
def Fn.join (F : Fn) (s x t eb ce : Nat) : Fn := (((F.more s x t eb ce).head s F.K).mapS s x F.K)
section
variable {B g : Nat} {w : World} {F : Fn}
theorem grown_block {a b : World} {r : Option Nat} (h : a.grownBy b r) {k : Nat} (hk : k < a.heap.size) (hne : some k ≠ r) : b.heap[k]? = a.heap[k]? := h.block k hk hne
theorem Rep.more (h : Rep B w g F) {wx w1 : World} {ao : Option Addr} {cap s x t : Nat} (hx : w.grownBy wx none) (hg : wx.grownBy w1 (some F.eb))
    (ho : w1.ownsRow B 107 3 (.slice ao (F.K + 1 : Nat) cap) (F.K + 1) (rowL F.edv F.K 3 ++ [.int .i32 t, .int .i32 (F.hd s), .int .u8 x]))
    (hat : (Value.slice ao (F.K + 1 : Nat) cap).ownBlock = some F.eb ∨ (Value.slice ao (F.K + 1 : Nat) cap).ownBlock = some wx.heap.size) :
    ∃ eb, ao = some ⟨eb, 0, none⟩ ∧ Rep B (w1.setCell ⟨g, 1, none⟩ (.slice ao (F.K + 1 : Nat) cap)) g (F.more s x t eb cap) ∧ Below B w (w1.setCell ⟨g, 1, none⟩ (.slice ao (F.K + 1 : Nat) cap)) ∧
      w1.cell? ⟨g, 0, none⟩ = w.cell? ⟨g, 0, none⟩ ∧ w1.cell? ⟨g, 1, none⟩ = w.cell? ⟨g, 1, none⟩ ∧ (∀ i, w1.cell? ⟨F.sb, i, none⟩ = w.cell? ⟨F.sb, i, none⟩) ∧ w1.frozen? ⟨g, 1, none⟩ = false := by
  obtain ⟨a1, a2, a3, a4, a5, a6⟩ := h.ap
  have hs1 := hx.size
  have hs2 := hg.size
  have blk : ∀ k, k < w.heap.size → k ≠ F.eb → w1.heap[k]? = w.heap[k]? := fun k hk hne => (hg.block k (by omega) (by simpa using hne)).trans (hx.block k hk (by simp))
  have hrow : rowL (F.more s x t 0 cap).edv (F.K + 1) 3 = rowL F.edv F.K 3 ++ [.int .i32 t, .int .i32 (F.hd s), .int .u8 x] := by
    rw [rowL_succ _ _ _ (by omega)]
    congr 1
    · unfold rowL
      refine List.map_congr_left fun i hi => ?_
      have hi' := List.mem_range.1 hi
      have hd : i / 3 < F.K := (Nat.div_lt_iff_lt_mul (by omega)).2 hi'
      simp only [Fn.edv, Fn.more, upd, show ¬ i / 3 = F.K by omega, if_false]
    · simp [Fn.edv, Fn.more, upd, List.range_succ]
  rw [← hrow] at ho
  obtain ⟨eb, rfl, hBe, hr⟩ := Row.of_owns (v := .nilIface) (by omega) ho
  have hne : ∀ k, k < w.heap.size → k ≠ F.eb → k ≠ eb := fun k hk hne e => by
    subst e
    rcases hat with e | e
    · simp [Value.ownBlock] at e; exact hne e
    · simp [Value.ownBlock] at e; omega
  have e1 := blk g h.glt a2
  have e2 := blk F.sb h.st.lt a4
  have e3 := blk F.mb h.mp.lt (Ne.symm a6)
  have f1 : ∀ (v : Value) k, k ≠ g → (w1.setCell ⟨g, 1, none⟩ v).heap[k]? = w1.heap[k]? := fun v k hk => Below.heap_setCell w1 _ v k hk
  refine ⟨eb, rfl, ⟨?_, ?_, ?_, ?_, h.Bg, h.Bs, hBe, h.Bm, h.csl, Nat.le_succ_of_le h.mnl⟩, ⟨?_, ?_, ?_, ?_, ?_⟩, World.cell?_of_block (a := ⟨g, 0, none⟩) e1, World.cell?_of_block (a := ⟨g, 1, none⟩) e1, fun i => World.cell?_of_block (a := ⟨F.sb, i, none⟩) e2, (World.frozen?_of_block (a := ⟨g, 1, none⟩) e1).trans (h.fz 1)⟩
  · rw [heap_set w1 g 1 _ (e1.trans h.fin)]
    simp [Fn.obj, Fn.more]
  · exact h.st.kept ((f1 _ _ (Ne.symm a1)).trans e2)
  · exact (hr.kept (f1 _ _ (Ne.symm (hne g h.glt a2)))).congr (fun _ _ _ _ => rfl)
  · exact h.mp.kept ((f1 _ _ (Ne.symm a3)).trans e3)
  · exact hg.os.trans hx.os
  · exact hg.tape.trans hx.tape
  · exact hg.output.trans hx.output
  · simp [World.setCell]; omega
  · intro k hk
    have := h.Bg; have := h.Be; have := h.glt
    exact (f1 _ _ (by omega)).trans (blk k (by omega) (by omega))
theorem Rep.head (h : Rep B w g F) {s : Nat} (e : Nat) (hs : s < F.N) : Rep B (w.setCell ⟨F.sb, s * 4 + 3, none⟩ (.int .i32 e)) g (F.head s e) ∧ Below B w (w.setCell ⟨F.sb, s * 4 + 3, none⟩ (.int .i32 e)) := by
  obtain ⟨a1, a2, a3, a4, a5, a6⟩ := h.ap
  have f1 : ∀ k, k ≠ F.sb → (w.setCell ⟨F.sb, s * 4 + 3, none⟩ (.int .i32 e)).heap[k]? = w.heap[k]? := fun k hk => Below.heap_setCell w _ _ k hk
  refine ⟨⟨(f1 g a1).trans h.fin, (h.st.set hs (by omega) _).congr (fun s' k' hs' hk' => ?_), h.ed.kept (f1 _ (Ne.symm a4)), h.mp.kept (f1 _ (Ne.symm a5)), h.Bg, h.Bs, h.Be, h.Bm, h.csl, h.mnl⟩, (Below.refl _ _).setCell h.Bs _⟩
  by_cases hq : s' = s ∧ k' = 3
  · obtain ⟨rfl, rfl⟩ := hq
    simp [Fn.stv, Fn.head, upd]
  · rw [if_neg hq]
    have hk : k' = 0 ∨ k' = 1 ∨ k' = 2 ∨ k' = 3 := by omega
    rcases hk with rfl | rfl | rfl | rfl
    · rfl
    · rfl
    · rfl
    · have hne : s' ≠ s := fun e => hq ⟨e, rfl⟩
      simp [Fn.stv, Fn.head, upd, hne]
theorem kyL_inj {s x s' x' : Nat} (hx : x < 256) (hx' : x' < 256) (h : kyL s x = kyL s' x') : s = s' ∧ x = x' := by
  simp only [kyL, Lit.int.injEq, true_and] at h
  omega
theorem Rep.mapS (h : Rep B w g F) {s x e : Nat} (hs : s < 16777216) (hx : x < 256) (he : e < 2147483648) (hK : F.K ≤ 200000000) (hm : F.mn < F.K) :
    ∃ w', (Instr.mapUpdate 99 (.map (some F.mb)) (.int .u32 ((s * 256 + x : Nat) : Int)) (.int .i32 e)).run Tryd.prog w = .ok () w' ∧ Rep B w' g (F.mapS s x e) ∧ Below B w w' ∧ w'.cell? ⟨g, 2, none⟩ = w.cell? ⟨g, 2, none⟩ := by
  obtain ⟨D, hD, hat⟩ := h.mp
  obtain ⟨a1, a2, a3, a4, a5, a6⟩ := h.ap
  obtain ⟨w', h1, h2, h3⟩ := hD.update law111 Tryd.underlying99 (by unfold maxLen; omega) (key_of s x hs hx) (plainElem_int Tryd.underlying21 (WalkArith.wf_i32 (n := (e : Int)) ⟨by omega, by omega⟩))
  have bl : ∀ k, k < w.heap.size → k ≠ F.mb → w'.heap[k]? = w.heap[k]? := fun k hk hne => h3.block k hk (by simpa using hne)
  refine ⟨w', h1, ⟨(bl g h.glt a3).trans h.fin, h.st.kept (bl _ h.st.lt a5), h.ed.kept (bl _ h.ed.lt a6), ⟨_, h2, fun s' x' hs' hx' => ?_⟩, h.Bg, h.Bs, h.Be, h.Bm, h.csl, hm⟩, ⟨h3.os, h3.tape, h3.output, h3.size, fun k hk => bl k ?_ ?_⟩, World.cell?_of_block (a := ⟨g, 2, none⟩) (bl g h.glt a3)⟩
  · by_cases hq : s' = s ∧ x' = x
    · obtain ⟨rfl, rfl⟩ := hq
      rw [Maps.atKey_put_same (hD.tidy law111).isMap (show WideAt.IsKeyLit (kyL s' x') from trivial)]
      simp [Fn.mapS]
    · rw [Maps.atKey_put_other (fun e => hq (kyL_inj hx' hx e)), hat s' x' hs' hx']
      simp [Fn.mapS, hq]
  · have := h.Bg; have := h.glt; omega
  · have := h.Bm; omega
end
theorem new3 (w : World) (a b c : Value) (t : TypeId) : ∀ j u, [a, b, c][j]? = some u → (w.alloc (.cells #[a, b, c] t)).cell? ((⟨w.heap.size, 0, none⟩ : Addr).add j) = some u := by
  intro j u hj
  rw [addr_add, Nat.zero_add]
  have hh : (w.alloc (.cells #[a, b, c] t)).heap[w.heap.size]? = some (.cells #[a, b, c] t) := by
    show (w.heap.push _)[w.heap.size]? = _
    simp
  simp only [World.cell?, hh]
  simpa using hj
theorem owns_shape {w : World} {B n : Nat} {e : TypeId} {size : Nat} {v : Value} {xs : List Value} (h : w.ownsRow B e size v n xs) : ∃ a cp, v = .slice a (n : Nat) cp := by
  obtain ⟨_, ⟨h1, h2⟩ | ⟨g, cap, cur, hv, _⟩⟩ := h
  · exact ⟨none, 0, by rw [h1, h2]⟩
  · exact ⟨_, _, hv⟩
/-- 'append', at a step of a region that draws. -/
theorem step_append {P : Program} (w : World) {ops : Array Oper} {o : Oper} {a : Act} {K : Act → World → Prop} {Q : Exit → Act → World → Prop} {E : Prop} (hgd : o.guard = none) (s x : Operand) (t : TypeId)
    (ho : o.op = .call { callee := .builtin .append, args := #[s, x], argTypes := #[t, t] })
    (base : Nat) (e : TypeId) (i : TypeInfo) (z : Value) (size bytes : Nat) (ht : P.underlying t = some (.slice e)) (hi : P.info? e = some i) (hz : i.zero = some z)
    (hsize : i.size = size) (hby : i.bytes = bytes) (hzs : z.cells.size = size) (hsz : 0 < size)
    (v : Value) (n : Nat) (xs : List Value) (hs : a.eval s = v) (hown : w.ownsRow base e size v n xs)
    (ad : Addr) (m c : Nat) (news : List Value) (hx : a.eval x = .slice (some ad) m c) (hl : news.length = m * size) (hnews : ∀ j u, news[j]? = some u → w.cell? (ad.add j) = some u) (h1 : ∀ u ∈ news, u.oneCell' = true)
    (h63 : n + m ≤ maxLen) (hbytes : (n + m) * bytes ≤ 140737488355328) (hbase : base ≤ w.heap.size)
    (h : ∀ (ao : Option Addr) (cap : Nat) (w' : World), w'.ownsRow base e size (.slice ao (n + m : Nat) cap) (n + m) (xs ++ news) → w.grownBy w' v.ownBlock → ((Value.slice ao (n + m : Nat) cap).ownBlock = v.ownBlock ∨ (Value.slice ao (n + m : Nat) cap).ownBlock = some w.heap.size) → K (a.put o.dst (.slice ao (n + m : Nat) cap)) w') :
    if Region.wanted o (yielded ops a.tmps) = true then Oper.wp P o a w K Q else E := by
  have hw : Region.wanted o (yielded ops a.tmps) = true := by simp [Region.wanted, hgd]
  rw [if_pos hw]
  obtain ⟨v', w', hr, h2, h3, _, h5⟩ := run_append_own_at (P := P) w base t o.type e i z size bytes ht hi hz hsize hby hzs hsz v n xs hown ad m c news hl hnews h1 h63 hbytes hbase
  obtain ⟨ao, cap, rfl⟩ := owns_shape h2
  unfold Oper.wp execOp
  simp only [ho, resolve, invoke, builtin, Sem.run_bind, Sem.run_pure, Result.andThen_ok, List.map_toArray, List.map_cons, List.map_nil, hs, hx, hr]
  exact h ao cap w' h2 h3 h5
theorem Tryd.info107 : (Tryd.prog.info? 107).map (fun i => (i.zero, i.size, i.bytes)) = some (some (.agg #[.int .i32 0, .int .i32 0, .int .u8 0]), 3, 12) := by kernel_rfl
theorem Tryd.info103 : (Tryd.prog.info? 103).map (fun i => (i.zero, i.size, i.bytes)) = some (some (.agg #[.int .i32 0, .int .i32 0, .int .i32 0, .int .i32 0]), 4, 16) := by kernel_rfl
set_option maxRecDepth 10000 in
set_option maxHeartbeats 1000000 in
theorem join_any {B g : Nat} {F : Fn} (s x t : Nat) (hx : x < 256) (w : World) (hR : Rep B w g F) (hs : s < F.N) (hK : F.K ≤ 100000000) :
    Calls Tryd.prog 42 #[.pointer (some ⟨g, 0, none⟩), .int .i32 s, .int .u8 x, .int .i32 t] w fun e w' => (∃ v, e = .returned v) ∧ ∃ eb ce, Rep B w' g (F.join s x t eb ce) ∧ Below B w w' := by
  obtain ⟨i, hi, hz0, hz1, hz2⟩ := info_parts Tryd.info107
  have c0 := hR.c0
  have c1 := hR.c1
  have cs := hR.st.cell hs (show 3 < 4 by omega)
  have hN := hR.st.le
  have hcl := hR.csl
  have HOW : Hid (w.ownsRow B 107 3 (.slice (some ⟨F.eb, 0, none⟩) F.K F.ce) F.K (rowL F.edv F.K 3)) := hR.ed.owns (show 0 < 3 by omega) hR.Be
  have HR : Hid _ := hR
  obtain ⟨N, HN⟩ : ∃ N, Hid (N = F.N) := ⟨_, rfl⟩
  obtain ⟨K, HKK⟩ : ∃ K, Hid (K = F.K) := ⟨_, rfl⟩
  obtain ⟨h, HH⟩ : ∃ h, Hid (h = F.hd s) := ⟨_, rfl⟩
  have csv : F.stv s 3 = .int .i32 h := by rw [HH.out]; rfl
  rw [csv] at cs
  rw [← HN.out] at hs c0 hN
  rw [← HKK.out] at hK c1 HOW
  have hsN : s < 300000 := by omega
  have hgl := hR.glt
  have hBl : B ≤ w.heap.size := by have := hR.Bg; omega
  clear hR csv
  go_enter Tryd.func42, Tryd.ntmps42
  go_wp2_with fail
  refine wp_region_held_drew (S := fun w' => w'.cell? ⟨g, 0, none⟩ = some (.slice (some ⟨F.sb, 0, none⟩) N F.cs) ∧ w'.cell? ⟨F.sb, s * 4 + 3, none⟩ = some (.int .i32 h)) (by kernel_rfl) ⟨c0, cs⟩ (fun hHeld => ?_)
  have c1' : w.drew.cell? ⟨g, 1, none⟩ = some (.slice (some ⟨F.eb, 0, none⟩) K F.ce) := c1
  refine takeL (i := 0) (v := ?_) rfl (by kernel_rfl) (by kernel_rfl) (by kernel_rfl) (fun _ _ _ h => h) (Or.inl ⟨by rfl, ?_⟩) hHeld ?_
  rotate_left
  · rintro w' ⟨s0, s1⟩; go_simp; rfl
  try simp only [Act.put, List.setIfInBounds_toArray, List.set_cons_zero, List.set_cons_succ]
  refine takeL (i := 1) (v := ?_) rfl (by kernel_rfl) (by kernel_rfl) (by kernel_rfl) (fun _ _ _ h => h) (Or.inl ⟨by rfl, ?_⟩) hHeld ?_
  rotate_left
  · rintro w' ⟨s0, s1⟩; go_simp; rfl
  try simp only [Act.put, List.setIfInBounds_toArray, List.set_cons_zero, List.set_cons_succ]
  refine takeL (i := 2) (v := ?_) rfl (by kernel_rfl) (by kernel_rfl) (by kernel_rfl) (fun _ _ _ h => h) (Or.inl ⟨by rfl, ?_⟩) hHeld ?_
  rotate_left
  · rintro w' ⟨s0, s1⟩; go_simp; rfl
  try simp only [Act.put, List.setIfInBounds_toArray, List.set_cons_zero, List.set_cons_succ]
  refine takeL (i := 3) (v := ?_) rfl (by kernel_rfl) (by kernel_rfl) (by kernel_rfl) (fun _ _ _ h => h) (Or.inl ⟨by rfl, ?_⟩) hHeld ?_
  rotate_left
  · rintro w' ⟨s0, s1⟩; go_simp; rfl
  try simp only [Act.put, List.setIfInBounds_toArray, List.set_cons_zero, List.set_cons_succ]
  refine takeL (i := 5) (v := ?_) rfl (by kernel_rfl) (by kernel_rfl) (by kernel_rfl) (fun _ _ _ h => h) (Or.inl ⟨by rfl, ?_⟩) hHeld ?_
  rotate_left
  · rintro w' ⟨s0, s1⟩; go_simp; rfl
  try simp only [Act.put, List.setIfInBounds_toArray, List.set_cons_zero, List.set_cons_succ]
  refine takeL (i := 6) (v := ?_) rfl (by kernel_rfl) (by kernel_rfl) (by kernel_rfl) (fun _ _ _ h => h) (Or.inl ⟨by rfl, ?_⟩) hHeld ?_
  rotate_left
  · rintro w' ⟨s0, s1⟩; go_simp; rfl
  try simp only [Act.put, List.setIfInBounds_toArray, List.set_cons_zero, List.set_cons_succ]
  refine takeL (i := 7) (v := ?_) rfl (by kernel_rfl) (by kernel_rfl) (by kernel_rfl) (fun _ _ _ h => h) (Or.inl ⟨by rfl, ?_⟩) hHeld ?_
  rotate_left
  · rintro w' ⟨s0, s1⟩; go_simp; rfl
  try simp only [Act.put, List.setIfInBounds_toArray, List.set_cons_zero, List.set_cons_succ]
  refine takeL (i := 8) (v := ?_) rfl (by kernel_rfl) (by kernel_rfl) (by kernel_rfl) (fun _ _ _ h => h) (Or.inl ⟨by rfl, ?_⟩) hHeld ?_
  rotate_left
  · rintro w' ⟨s0, s1⟩; go_simp; rfl
  try simp only [Act.put, List.setIfInBounds_toArray, List.set_cons_zero, List.set_cons_succ]
  refine takeL (i := 9) (v := ?_) rfl (by kernel_rfl) (by kernel_rfl) (by kernel_rfl) (fun _ _ _ h => h) (Or.inl ⟨by rfl, ?_⟩) hHeld ?_
  rotate_left
  · rintro w' ⟨s0, s1⟩; go_simp; rfl
  try simp only [Act.put, List.setIfInBounds_toArray, List.set_cons_zero, List.set_cons_succ]
  refine takeL (i := 10) (v := ?_) rfl (by kernel_rfl) (by kernel_rfl) (by kernel_rfl) (fun _ _ _ h => h) (Or.inl ⟨by rfl, ?_⟩) hHeld ?_
  rotate_left
  · rintro w' ⟨s0, s1⟩; go_simp; rfl
  try simp only [Act.put, List.setIfInBounds_toArray, List.set_cons_zero, List.set_cons_succ]
  refine takeL (i := 11) (v := ?_) rfl (by kernel_rfl) (by kernel_rfl) (by kernel_rfl) (fun _ _ _ h => h) (Or.inl ⟨by rfl, ?_⟩) hHeld ?_
  rotate_left
  · rintro w' ⟨s0, s1⟩; go_simp; rfl
  try simp only [Act.put, List.setIfInBounds_toArray, List.set_cons_zero, List.set_cons_succ]
  refine takeL (i := 12) (v := ?_) rfl (by kernel_rfl) (by kernel_rfl) (by kernel_rfl) (fun _ _ _ h => h) (Or.inl ⟨by rfl, ?_⟩) hHeld ?_
  rotate_left
  · rintro w' ⟨s0, s1⟩; go_simp; rfl
  try simp only [Act.put, List.setIfInBounds_toArray, List.set_cons_zero, List.set_cons_succ]
  refine takeL (i := 13) (v := ?_) rfl (by kernel_rfl) (by kernel_rfl) (by kernel_rfl) (fun _ _ _ h => h) (Or.inl ⟨by rfl, ?_⟩) hHeld ?_
  rotate_left
  · rintro w' ⟨s0, s1⟩; go_simp; rfl
  try simp only [Act.put, List.setIfInBounds_toArray, List.set_cons_zero, List.set_cons_succ]
  refine takeL (i := 14) (v := ?_) rfl (by kernel_rfl) (by kernel_rfl) (by kernel_rfl) (fun _ _ _ h => h) (Or.inl ⟨by rfl, ?_⟩) hHeld ?_
  rotate_left
  · rintro w' ⟨s0, s1⟩; go_simp; rfl
  try simp only [Act.put, List.setIfInBounds_toArray, List.set_cons_zero, List.set_cons_succ]
  refine takeL (i := 15) (v := ?_) rfl (by kernel_rfl) (by kernel_rfl) (by kernel_rfl) (fun _ _ _ h => h) (Or.inl ⟨by rfl, ?_⟩) hHeld ?_
  rotate_left
  · rintro w' ⟨s0, s1⟩; go_simp; rfl
  try simp only [Act.put, List.setIfInBounds_toArray, List.set_cons_zero, List.set_cons_succ]
  have HX : Hid (w.grownBy (w.drew.alloc (.cells #[.int .i32 t, .int .i32 h, .int .u8 x] 107)) none) := ⟨rfl, rfl, rfl, (World.grownBy_alloc w.drew _ none).size, (World.grownBy_alloc w.drew _ none).block⟩
  have c0x : (w.drew.alloc (.cells #[.int .i32 t, .int .i32 h, .int .u8 x] 107)).cell? ⟨g, 0, none⟩ = some (.slice (some ⟨F.sb, 0, none⟩) N F.cs) := (World.cell?_alloc_some _ _ _ (by rw [hHeld.1]; rfl)).trans hHeld.1
  have c1x : (w.drew.alloc (.cells #[.int .i32 t, .int .i32 h, .int .u8 x] 107)).cell? ⟨g, 1, none⟩ = some (.slice (some ⟨F.eb, 0, none⟩) K F.ce) := (World.cell?_alloc_some _ _ _ (by rw [c1']; rfl)).trans c1'
  have csx : (w.drew.alloc (.cells #[.int .i32 t, .int .i32 h, .int .u8 x] 107)).cell? ⟨F.sb, s * 4 + 3, none⟩ = some (.int .i32 h) := (World.cell?_alloc_some _ _ _ (by rw [hHeld.2]; rfl)).trans hHeld.2
  have HNW := new3 w.drew (.int .i32 t) (.int .i32 h) (.int .u8 x) 107
  have HOX : Hid _ := (show w.drew.ownsRow B 107 3 (.slice (some ⟨F.eb, 0, none⟩) K F.ce) K (rowL F.edv K 3) from HOW.out).alloc (.cells #[.int .i32 t, .int .i32 h, .int .u8 x] 107)
  have HNW' : Hid _ := HNW
  clear HNW HOW
  refine wpAnyH_ready (rs := [4, 16]) (by kernel_rfl) (by simp) ?_
  refine consL rfl (fun KK hKK => ?_) (consL rfl (fun KK hKK => ?_) AllReadyH.nil)
  · go_simp
    refine hKK.out _ _ hHeld (fun _ => ?_)
    clear hKK KK
    try simp only [Act.put, List.setIfInBounds_toArray, List.set_cons_zero, List.set_cons_succ]
    refine wpAnyH_ready (rs := [16]) (by kernel_rfl) (by simp) ?_
    refine consL rfl (fun KK hKK => ?_) AllReadyH.nil
    go_simp
    refine hKK.out _ _ ⟨c0x, csx⟩ (fun _ => ?_)
    clear hKK KK
    try simp only [Act.put, List.setIfInBounds_toArray, List.set_cons_zero, List.set_cons_succ]
    refine wpAnyH_ready (rs := [17]) (by kernel_rfl) (by simp) ?_
    refine consL rfl (fun KK hKK => ?_) AllReadyH.nil
    refine step_append _ (by rfl) _ _ _ (by rfl) B 107 i _ 3 12 Tryd.underlying98 hi hz0 hz1 hz2 rfl (by omega) (.slice (some ⟨F.eb, 0, none⟩) K F.ce) K (rowL F.edv K 3) (by rfl) (by exact HOX.out) ⟨w.heap.size, 0, none⟩ 1 1 [.int .i32 t, .int .i32 h, .int .u8 x] (by rfl) (by simp) (by exact HNW'.out) (by intro u hu; simp at hu; rcases hu with rfl | rfl | rfl <;> rfl) (by unfold maxLen; omega) (by omega) (by simp; omega) ?_
    intro ao cp w1 ho hg hat
    have HM := HR.out.more (s := s) (x := x) (t := t) (ao := ao) (cap := cp) HX.out hg
    rw [← HKK.out, ← HH.out] at HM
    obtain ⟨eb, rfl, hR2, hB2, e0, e1, es, ez⟩ := HM ho hat
    have k0 := e0.trans c0
    have k1 := e1.trans c1
    have ks := (es _).trans cs
    have HR2 : Hid _ := hR2
    have HB2 : Hid _ := hB2
    clear ho hg hat hR2 hB2 e0 e1 es HM
    refine hKK.out _ _ ⟨k0, ks⟩ (fun hHeld5 => ?_)
    clear hKK KK
    try simp only [Act.put, List.setIfInBounds_toArray, List.set_cons_zero, List.set_cons_succ]
    refine takeL (i := 18) (v := ?_) rfl (by kernel_rfl) (by kernel_rfl) (by kernel_rfl) (fun _ _ _ h => h) (Or.inl ⟨by rfl, ?_⟩) hHeld5 ?_
    rotate_left
    · rintro w' ⟨s0, s1⟩; go_simp; rfl
    try simp only [Act.put, List.setIfInBounds_toArray, List.set_cons_zero, List.set_cons_succ]
    refine takeL (i := 19) (v := ?_) rfl (by kernel_rfl) (by kernel_rfl) (by kernel_rfl) (fun _ _ _ h => h) (Or.inl ⟨by rfl, ?_⟩) hHeld5 ?_
    rotate_left
    · rintro w' ⟨s0, s1⟩; go_simp; rfl
    try simp only [Act.put, List.setIfInBounds_toArray, List.set_cons_zero, List.set_cons_succ]
    refine wpAnyH_ready (rs := [20]) (by kernel_rfl) (by simp) ?_
    refine consL rfl (fun KK hKK => ?_) AllReadyH.nil
    go_simp
    obtain ⟨w2, HW2⟩ : ∃ w2, Hid (w1.setCell ⟨g, 1, none⟩ (.slice (some ⟨eb, 0, none⟩) (K + 1 : Nat) cp) = w2) := ⟨_, rfl⟩
    rw [HW2.out] at HR2 HB2
    have d0 := HR2.out.c0
    have d2 := HR2.out.c2
    have hs2 : s < (F.more s x t eb cp).N := by rw [HN.out] at hs; exact hs
    have ds := HR2.out.st.cell hs2 (show 3 < 4 by omega)
    have fs := HR2.out.st.frozen (s * 4 + 3)
    have HR3 : Hid _ := HR2.out.head K hs2
    have dsv : (F.more s x t eb cp).stv s 3 = .int .i32 h := by rw [HH.out]; rfl
    rw [dsv] at ds
    simp only [Fn.more] at d0 d2 ds fs
    rw [← HN.out] at d0
    refine hKK.out _ _ ⟨by rw [HW2.out]; exact d0, by rw [HW2.out]; exact ds⟩ (fun _ => ?_)
    clear hKK KK
    try simp only [Act.put, List.setIfInBounds_toArray, List.set_cons_zero, List.set_cons_succ]
    rw [HW2.out]
    refine wpAnyH_done (by kernel_rfl) ?_ _
    clear HW2 hHeld5 c0 c1 cs k0 k1 ks c0x c1x csx hHeld ez
    go_wp2_with fail
    have HR4 : Hid (Rep B (w2.setCell ⟨F.sb, s * 4 + 3, none⟩ (.int .i32 K)) g ((F.more s x t eb cp).head s K)) := HR3.out.1
    have HB4 : Hid (Below B w (w2.setCell ⟨F.sb, s * 4 + 3, none⟩ (.int .i32 K))) := HB2.out.trans HR3.out.2
    obtain ⟨w3, HW3⟩ : ∃ w3, Hid (w2.setCell ⟨F.sb, s * 4 + 3, none⟩ (.int .i32 K) = w3) := ⟨_, rfl⟩
    rw [HW3.out] at HR4 HB4 ⊢
    clear HW3 HR3 HR2 HB2 d0 d2 ds fs
    have m2 : w3.drew.cell? ⟨g, 2, none⟩ = some (.map (some F.mb)) := HR4.out.c2
    obtain ⟨w4, hr4, hR5, hB5, e5⟩ := (HR4.out.drewN 1).mapS (s := s) (x := x) (e := K) (by omega) hx (by omega) (by show F.K + 1 ≤ _; rw [← HKK.out]; omega) (by have := HR.out.mnl; show F.mn < F.K + 1; omega)
    have HR5 : Hid _ := hR5
    have HB5 : Hid _ := hB5
    clear hR5 hB5
    have hr5 : (Instr.mapUpdate 99 (.map (some F.mb)) (.int .u32 ((s * 256 + x : Nat) : Int)) (.int .i32 K)).run Tryd.prog w3.drew = .ok () w4 := hr4
    have m4 : w4.cell? ⟨g, 2, none⟩ = some (.map (some F.mb)) := e5.trans m2
    clear hr4 e5
    obtain ⟨ky, HKY⟩ : ∃ ky, Hid (ky = ((s * 256 + x : Nat) : Int)) := ⟨_, rfl⟩
    have HKE : Hid _ := fun w' => key_any s x (by omega) hx w'
    rw [← HKY.out] at HKE hr5
    refine wp_region_held_drew (S := fun w' => w'.cell? ⟨g, 2, none⟩ = some (.map (some F.mb))) (by kernel_rfl) m2 (fun hHeld => ?_)
    refine takeL (i := 0) (v := ?_) rfl (by kernel_rfl) (by kernel_rfl) (by kernel_rfl) (fun _ _ _ h => h) (Or.inl ⟨by rfl, ?_⟩) hHeld ?_
    rotate_left
    · rintro w' s0; go_simp; rfl
    try simp only [Act.put, List.setIfInBounds_toArray, List.set_cons_zero, List.set_cons_succ]
    refine takeL (i := 1) (v := ?_) rfl (by kernel_rfl) (by kernel_rfl) (by kernel_rfl) (fun _ _ _ h => h) (Or.inl ⟨by rfl, ?_⟩) hHeld ?_
    rotate_left
    · rintro w' s0; go_simp; rfl
    try simp only [Act.put, List.setIfInBounds_toArray, List.set_cons_zero, List.set_cons_succ]
    refine takeL (i := 2) (v := ?_) rfl (by kernel_rfl) (by kernel_rfl) (by kernel_rfl) (fun _ _ _ h => h) (Or.inl ⟨by rfl, ?_⟩) hHeld ?_
    rotate_left
    · rintro w' s0; go_simp; rfl
    try simp only [Act.put, List.setIfInBounds_toArray, List.set_cons_zero, List.set_cons_succ]
    refine takeL (i := 3) (v := ?_) rfl (by kernel_rfl) (by kernel_rfl) (by kernel_rfl) (fun _ _ _ h => h) (Or.inl ⟨by rfl, ?_⟩) hHeld ?_
    rotate_left
    · rintro w' s0; go_simp; rfl
    try simp only [Act.put, List.setIfInBounds_toArray, List.set_cons_zero, List.set_cons_succ]
    refine takeL (i := 4) (v := ?_) rfl (by kernel_rfl) (by kernel_rfl) (by kernel_rfl) (fun _ _ _ h => h) (Or.inl ⟨by rfl, ?_⟩) hHeld ?_
    rotate_left
    · rintro w' s0; go_simp; rfl
    try simp only [Act.put, List.setIfInBounds_toArray, List.set_cons_zero, List.set_cons_succ]
    refine takeL (i := 5) (v := ?_) rfl (by kernel_rfl) (by kernel_rfl) (by kernel_rfl) (fun _ _ _ h => h) (Or.inl ⟨by rfl, ?_⟩) hHeld ?_
    rotate_left
    · rintro w' s0; go_simp; rfl
    try simp only [Act.put, List.setIfInBounds_toArray, List.set_cons_zero, List.set_cons_succ]
    refine takeL (i := 7) (v := ?_) rfl (by kernel_rfl) (by kernel_rfl) (by kernel_rfl) (fun _ _ _ h => h) (Or.inl ⟨by rfl, ?_⟩) hHeld ?_
    rotate_left
    · rintro w' s0; go_simp; rfl
    try simp only [Act.put, List.setIfInBounds_toArray, List.set_cons_zero, List.set_cons_succ]
    refine wpAnyH_ready (rs := [6]) (by kernel_rfl) (by simp) ?_
    refine consL rfl (fun KK hKK => ?_) AllReadyH.nil
    refine step_callv (by rfl) 44 [.tmp 47, .tmp 48] _ [.int .i32 s, .int .u8 x] _ (by rfl) (by rfl) (enter44 _ _) (HKE.out _) ?_
    rintro e w5 ⟨rfl, rfl⟩
    refine ⟨_, rfl, ?_⟩
    refine hKK.out _ _ hHeld (fun _ => ?_)
    clear hKK KK
    try simp only [Act.put, List.setIfInBounds_toArray, List.set_cons_zero, List.set_cons_succ]
    refine wpAnyH_ready (rs := [8]) (by kernel_rfl) (by simp) ?_
    refine consL rfl (fun KK hKK => ?_) AllReadyH.nil
    go_simp
    refine hKK.out _ _ m4 (fun _ => ?_)
    clear hKK KK
    try simp only [Act.put, List.setIfInBounds_toArray, List.set_cons_zero, List.set_cons_succ]
    refine wpAnyH_done (by kernel_rfl) ?_ _
    go_wp2_with fail
    go_end0
    refine ⟨⟨_, rfl⟩, eb, cp, ?_, (below_drewN HB4.out 1).trans HB5.out⟩
    have := HR5.out
    rw [HKK.out] at this
    exact this
  · go_simp
    refine hKK.out _ _ ⟨c0x, csx⟩ (fun _ => ?_)
    clear hKK KK
    try simp only [Act.put, List.setIfInBounds_toArray, List.set_cons_zero, List.set_cons_succ]
    refine wpAnyH_ready (rs := [4]) (by kernel_rfl) (by simp) ?_
    refine consL rfl (fun KK hKK => ?_) AllReadyH.nil
    go_simp
    refine hKK.out _ _ ⟨c0x, csx⟩ (fun _ => ?_)
    clear hKK KK
    try simp only [Act.put, List.setIfInBounds_toArray, List.set_cons_zero, List.set_cons_succ]
    refine wpAnyH_ready (rs := [17]) (by kernel_rfl) (by simp) ?_
    refine consL rfl (fun KK hKK => ?_) AllReadyH.nil
    refine step_append _ (by rfl) _ _ _ (by rfl) B 107 i _ 3 12 Tryd.underlying98 hi hz0 hz1 hz2 rfl (by omega) (.slice (some ⟨F.eb, 0, none⟩) K F.ce) K (rowL F.edv K 3) (by rfl) (by exact HOX.out) ⟨w.heap.size, 0, none⟩ 1 1 [.int .i32 t, .int .i32 h, .int .u8 x] (by rfl) (by simp) (by exact HNW'.out) (by intro u hu; simp at hu; rcases hu with rfl | rfl | rfl <;> rfl) (by unfold maxLen; omega) (by omega) (by simp; omega) ?_
    intro ao cp w1 ho hg hat
    have HM := HR.out.more (s := s) (x := x) (t := t) (ao := ao) (cap := cp) HX.out hg
    rw [← HKK.out, ← HH.out] at HM
    obtain ⟨eb, rfl, hR2, hB2, e0, e1, es, ez⟩ := HM ho hat
    have k0 := e0.trans c0
    have k1 := e1.trans c1
    have ks := (es _).trans cs
    have HR2 : Hid _ := hR2
    have HB2 : Hid _ := hB2
    clear ho hg hat hR2 hB2 e0 e1 es HM
    refine hKK.out _ _ ⟨k0, ks⟩ (fun hHeld5 => ?_)
    clear hKK KK
    try simp only [Act.put, List.setIfInBounds_toArray, List.set_cons_zero, List.set_cons_succ]
    refine takeL (i := 18) (v := ?_) rfl (by kernel_rfl) (by kernel_rfl) (by kernel_rfl) (fun _ _ _ h => h) (Or.inl ⟨by rfl, ?_⟩) hHeld5 ?_
    rotate_left
    · rintro w' ⟨s0, s1⟩; go_simp; rfl
    try simp only [Act.put, List.setIfInBounds_toArray, List.set_cons_zero, List.set_cons_succ]
    refine takeL (i := 19) (v := ?_) rfl (by kernel_rfl) (by kernel_rfl) (by kernel_rfl) (fun _ _ _ h => h) (Or.inl ⟨by rfl, ?_⟩) hHeld5 ?_
    rotate_left
    · rintro w' ⟨s0, s1⟩; go_simp; rfl
    try simp only [Act.put, List.setIfInBounds_toArray, List.set_cons_zero, List.set_cons_succ]
    refine wpAnyH_ready (rs := [20]) (by kernel_rfl) (by simp) ?_
    refine consL rfl (fun KK hKK => ?_) AllReadyH.nil
    go_simp
    obtain ⟨w2, HW2⟩ : ∃ w2, Hid (w1.setCell ⟨g, 1, none⟩ (.slice (some ⟨eb, 0, none⟩) (K + 1 : Nat) cp) = w2) := ⟨_, rfl⟩
    rw [HW2.out] at HR2 HB2
    have d0 := HR2.out.c0
    have d2 := HR2.out.c2
    have hs2 : s < (F.more s x t eb cp).N := by rw [HN.out] at hs; exact hs
    have ds := HR2.out.st.cell hs2 (show 3 < 4 by omega)
    have fs := HR2.out.st.frozen (s * 4 + 3)
    have HR3 : Hid _ := HR2.out.head K hs2
    have dsv : (F.more s x t eb cp).stv s 3 = .int .i32 h := by rw [HH.out]; rfl
    rw [dsv] at ds
    simp only [Fn.more] at d0 d2 ds fs
    rw [← HN.out] at d0
    refine hKK.out _ _ ⟨by rw [HW2.out]; exact d0, by rw [HW2.out]; exact ds⟩ (fun _ => ?_)
    clear hKK KK
    try simp only [Act.put, List.setIfInBounds_toArray, List.set_cons_zero, List.set_cons_succ]
    rw [HW2.out]
    refine wpAnyH_done (by kernel_rfl) ?_ _
    clear HW2 hHeld5 c0 c1 cs k0 k1 ks c0x c1x csx hHeld ez
    go_wp2_with fail
    have HR4 : Hid (Rep B (w2.setCell ⟨F.sb, s * 4 + 3, none⟩ (.int .i32 K)) g ((F.more s x t eb cp).head s K)) := HR3.out.1
    have HB4 : Hid (Below B w (w2.setCell ⟨F.sb, s * 4 + 3, none⟩ (.int .i32 K))) := HB2.out.trans HR3.out.2
    obtain ⟨w3, HW3⟩ : ∃ w3, Hid (w2.setCell ⟨F.sb, s * 4 + 3, none⟩ (.int .i32 K) = w3) := ⟨_, rfl⟩
    rw [HW3.out] at HR4 HB4 ⊢
    clear HW3 HR3 HR2 HB2 d0 d2 ds fs
    have m2 : w3.drew.cell? ⟨g, 2, none⟩ = some (.map (some F.mb)) := HR4.out.c2
    obtain ⟨w4, hr4, hR5, hB5, e5⟩ := (HR4.out.drewN 1).mapS (s := s) (x := x) (e := K) (by omega) hx (by omega) (by show F.K + 1 ≤ _; rw [← HKK.out]; omega) (by have := HR.out.mnl; show F.mn < F.K + 1; omega)
    have HR5 : Hid _ := hR5
    have HB5 : Hid _ := hB5
    clear hR5 hB5
    have hr5 : (Instr.mapUpdate 99 (.map (some F.mb)) (.int .u32 ((s * 256 + x : Nat) : Int)) (.int .i32 K)).run Tryd.prog w3.drew = .ok () w4 := hr4
    have m4 : w4.cell? ⟨g, 2, none⟩ = some (.map (some F.mb)) := e5.trans m2
    clear hr4 e5
    obtain ⟨ky, HKY⟩ : ∃ ky, Hid (ky = ((s * 256 + x : Nat) : Int)) := ⟨_, rfl⟩
    have HKE : Hid _ := fun w' => key_any s x (by omega) hx w'
    rw [← HKY.out] at HKE hr5
    refine wp_region_held_drew (S := fun w' => w'.cell? ⟨g, 2, none⟩ = some (.map (some F.mb))) (by kernel_rfl) m2 (fun hHeld => ?_)
    refine takeL (i := 0) (v := ?_) rfl (by kernel_rfl) (by kernel_rfl) (by kernel_rfl) (fun _ _ _ h => h) (Or.inl ⟨by rfl, ?_⟩) hHeld ?_
    rotate_left
    · rintro w' s0; go_simp; rfl
    try simp only [Act.put, List.setIfInBounds_toArray, List.set_cons_zero, List.set_cons_succ]
    refine takeL (i := 1) (v := ?_) rfl (by kernel_rfl) (by kernel_rfl) (by kernel_rfl) (fun _ _ _ h => h) (Or.inl ⟨by rfl, ?_⟩) hHeld ?_
    rotate_left
    · rintro w' s0; go_simp; rfl
    try simp only [Act.put, List.setIfInBounds_toArray, List.set_cons_zero, List.set_cons_succ]
    refine takeL (i := 2) (v := ?_) rfl (by kernel_rfl) (by kernel_rfl) (by kernel_rfl) (fun _ _ _ h => h) (Or.inl ⟨by rfl, ?_⟩) hHeld ?_
    rotate_left
    · rintro w' s0; go_simp; rfl
    try simp only [Act.put, List.setIfInBounds_toArray, List.set_cons_zero, List.set_cons_succ]
    refine takeL (i := 3) (v := ?_) rfl (by kernel_rfl) (by kernel_rfl) (by kernel_rfl) (fun _ _ _ h => h) (Or.inl ⟨by rfl, ?_⟩) hHeld ?_
    rotate_left
    · rintro w' s0; go_simp; rfl
    try simp only [Act.put, List.setIfInBounds_toArray, List.set_cons_zero, List.set_cons_succ]
    refine takeL (i := 4) (v := ?_) rfl (by kernel_rfl) (by kernel_rfl) (by kernel_rfl) (fun _ _ _ h => h) (Or.inl ⟨by rfl, ?_⟩) hHeld ?_
    rotate_left
    · rintro w' s0; go_simp; rfl
    try simp only [Act.put, List.setIfInBounds_toArray, List.set_cons_zero, List.set_cons_succ]
    refine takeL (i := 5) (v := ?_) rfl (by kernel_rfl) (by kernel_rfl) (by kernel_rfl) (fun _ _ _ h => h) (Or.inl ⟨by rfl, ?_⟩) hHeld ?_
    rotate_left
    · rintro w' s0; go_simp; rfl
    try simp only [Act.put, List.setIfInBounds_toArray, List.set_cons_zero, List.set_cons_succ]
    refine takeL (i := 7) (v := ?_) rfl (by kernel_rfl) (by kernel_rfl) (by kernel_rfl) (fun _ _ _ h => h) (Or.inl ⟨by rfl, ?_⟩) hHeld ?_
    rotate_left
    · rintro w' s0; go_simp; rfl
    try simp only [Act.put, List.setIfInBounds_toArray, List.set_cons_zero, List.set_cons_succ]
    refine wpAnyH_ready (rs := [6]) (by kernel_rfl) (by simp) ?_
    refine consL rfl (fun KK hKK => ?_) AllReadyH.nil
    refine step_callv (by rfl) 44 [.tmp 47, .tmp 48] _ [.int .i32 s, .int .u8 x] _ (by rfl) (by rfl) (enter44 _ _) (HKE.out _) ?_
    rintro e w5 ⟨rfl, rfl⟩
    refine ⟨_, rfl, ?_⟩
    refine hKK.out _ _ hHeld (fun _ => ?_)
    clear hKK KK
    try simp only [Act.put, List.setIfInBounds_toArray, List.set_cons_zero, List.set_cons_succ]
    refine wpAnyH_ready (rs := [8]) (by kernel_rfl) (by simp) ?_
    refine consL rfl (fun KK hKK => ?_) AllReadyH.nil
    go_simp
    refine hKK.out _ _ m4 (fun _ => ?_)
    clear hKK KK
    try simp only [Act.put, List.setIfInBounds_toArray, List.set_cons_zero, List.set_cons_succ]
    refine wpAnyH_done (by kernel_rfl) ?_ _
    go_wp2_with fail
    go_end0
    refine ⟨⟨_, rfl⟩, eb, cp, ?_, (below_drewN HB4.out 1).trans HB5.out⟩
    have := HR5.out
    rw [HKK.out] at this
    exact this
end Go.Proofs.YtblegkefeiefjaaDoor
