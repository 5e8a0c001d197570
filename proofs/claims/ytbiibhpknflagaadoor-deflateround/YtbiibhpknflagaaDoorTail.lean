/- A region that draws: behind its only call the operations that are left touch nothing: they are walked in the order of the text. -/
import Derived.Test.YtbiibhpknflagaaDoorSymA
import Derived.StillTactics
import Derived.StillTail
import Derived.Maps.AppendAt
namespace Go.Proofs.YtbiibhpknflagaaDoor
open Go.RowKit Plain

theorem wpAny_tail {P : Program} {md : Region.Mode} {l0 : List Oper} {Q : Exit → Act → World → Prop} (k : Nat) {fuel : Nat} {listed : Array Bool} {a : Act} {w : World} (hs : Region.noSelect l0.toArray = true) (hk : (l0.drop k).length = fuel)
    (hB : Region.lexFrom md l0.toArray fuel k listed = true) (h : wpStill P l0.toArray w (fun a' => Q .normal a' w) (l0.drop k) a) : wpAny P md l0.toArray Q fuel listed a w := by
  subst hk
  exact wpAny_of_still (fun _ h => h) _ _ _ (wpAnyS_lex hs (l0.drop k) k listed a (fun j => by simp) hB h)

/-- The same, where operations are guarded by what operation j gave (it lies in slot d). -/
theorem wpAny_tail2 {P : Program} {md : Region.Mode} {l0 : List Oper} {Q : Exit → Act → World → Prop} (k j d : Nat) {fuel : Nat} {listed : Array Bool} {a : Act} {w : World} (hs : Region.noSelect l0.toArray = true) (hk : (l0.drop k).length = fuel)
    (hB : Region.lexFrom md l0.toArray fuel k listed = true) (hd : (l0.toArray[j]?).bind (·.dst) = some d) (h : ∀ ops : Array Oper, (ops[j]?).bind (·.dst) = some d → wpStill P ops w (fun a' => Q .normal a' w) (l0.drop k) a) : wpAny P md l0.toArray Q fuel listed a w :=
  wpAny_tail k hs hk hB (h _ hd)
/-- A region that draws: reads first, a forced tail behind them. -/
theorem wp_region_drew_tail {P : Program} {id : Nat} {Q : Exit → Act → World → Prop} {a : Act} {w : World} {l : List Oper} (n : Nat) (hm : P.follows .mixedOrders = true) (hB : Region.lexTailB .any l.toArray n = true)
    (h : wpStill P l.toArray w.drew (fun a' => wpList P l.toArray Q (l.drop n) a' w.drew) (l.take n) a) : (Code.region id l.toArray true).wp P Q a w := wp_region_still_tail n hm hB h
theorem wpStill_free {P : Program} {ops : Array Oper} {w : World} {Q : Act → Prop} {a : Act} {o : Oper} {rest : List Oper} (hg : o.guard = none) (h : ∀ K : Act → Prop, (∀ a, wpStill P ops w Q rest a → K a) → o.still P a w K) : wpStill P ops w Q (o :: rest) a := by
  unfold wpStill; rw [if_pos (by simp [Region.wanted, hg])]; exact h _ (fun _ h => h)
theorem wpStill_pass {P : Program} {ops : Array Oper} {w : World} {Q : Act → Prop} {a : Act} {o : Oper} {rest : List Oper} {j d : Nat} {b : Bool} (hd : (ops[j]?).bind (·.dst) = some d) (hg : o.guard = some (j, b)) (ht : a.tmps[d]? = some (.bool (!b))) (h : wpStill P ops w Q rest (a.put o.dst undef)) : wpStill P ops w Q (o :: rest) a := by
  have hw : Region.wanted o (yielded ops a.tmps) = false := by simp [Region.wanted, hg, yielded, hd, ht]
  unfold wpStill; rw [hw]; exact h
theorem wpStill_want {P : Program} {ops : Array Oper} {w : World} {Q : Act → Prop} {a : Act} {o : Oper} {rest : List Oper} {j d : Nat} {b : Bool} (hd : (ops[j]?).bind (·.dst) = some d) (hg : o.guard = some (j, b)) (ht : a.tmps[d]? = some (.bool b)) (h : ∀ K : Act → Prop, (∀ a, wpStill P ops w Q rest a → K a) → o.still P a w K) : wpStill P ops w Q (o :: rest) a := by
  have hw : Region.wanted o (yielded ops a.tmps) = true := by simp [Region.wanted, hg, yielded, hd, ht]
  unfold wpStill; rw [if_pos hw]; exact h _ (fun _ h => h)

/-- 'append' to what was put out, of any number of bytes (none, too): at a step of a region that draws. -/
theorem step_append_at {P : Program} (w : World) {ops : Array Oper} {o : Oper} {a : Act} {K : Act → World → Prop} {Q : Exit → Act → World → Prop} {E : Prop} (hgd : o.guard = none) (s x : Operand) (t : TypeId)
    (ho : o.op = .call { callee := .builtin .append, args := #[s, x], argTypes := #[t, t] })
    (base : Nat) (e : TypeId) (i : TypeInfo) (z : Value) (size bytes : Nat) (ht : P.underlying t = some (.slice e)) (hi : P.info? e = some i) (hz : i.zero = some z)
    (hsize : i.size = size) (hby : i.bytes = bytes) (hzs : z.cells.size = size) (hsz : 0 < size)
    (v : Value) (n : Nat) (xs : List Value) (hs : a.eval s = v) (hown : w.ownsRow base e size v n xs)
    (ad : Addr) (m c : Nat) (news : List Value) (hx : a.eval x = .slice (some ad) m c) (hl : news.length = m * size) (hnews : ∀ j u, news[j]? = some u → w.cell? (ad.add j) = some u) (h1 : ∀ u ∈ news, u.oneCell' = true)
    (h63 : n + m ≤ maxLen) (hbytes : (n + m) * bytes ≤ 140737488355328) (hbase : base ≤ w.heap.size) (H : Nat) (hH : w.heap.size = H)
    (h : ∀ (ao : Option Addr) (cap : Nat) (w' : World), w'.ownsRow base e size (.slice ao (n + m : Nat) cap) (n + m) (xs ++ news) → w.grownBy w' v.ownBlock → ((Value.slice ao (n + m : Nat) cap).ownBlock = v.ownBlock ∨ (Value.slice ao (n + m : Nat) cap).ownBlock = some H) → K (a.put o.dst (.slice ao (n + m : Nat) cap)) w') :
    if Region.wanted o (yielded ops a.tmps) = true then Oper.wp P o a w K Q else E := by
  have hw : Region.wanted o (yielded ops a.tmps) = true := by simp [Region.wanted, hgd]
  rw [if_pos hw]
  obtain ⟨v', w', hr, h2, h3, _, h5⟩ := run_append_own_at (P := P) w base t o.type e i z size bytes ht hi hz hsize hby hzs hsz v n xs hown ad m c news hl hnews h1 h63 hbytes hbase
  obtain ⟨ao, cap, rfl⟩ := owns_shape h2
  unfold Oper.wp execOp
  simp only [ho, resolve, invoke, builtin, Sem.run_bind, Sem.run_pure, Result.andThen_ok, List.map_toArray, List.map_cons, List.map_nil, hs, hx, hr]
  exact h ao cap w' h2 h3 (hH ▸ h5)

theorem wpList_append_at {P : Program} (w : World) {ops : Array Oper} {rest : List Oper} {o : Oper} {a : Act} {Q : Exit → Act → World → Prop} (hgd : o.guard = none) (s x : Operand) (t : TypeId)
    (ho : o.op = .call { callee := .builtin .append, args := #[s, x], argTypes := #[t, t] })
    (base : Nat) (e : TypeId) (i : TypeInfo) (z : Value) (size bytes : Nat) (ht : P.underlying t = some (.slice e)) (hi : P.info? e = some i) (hz : i.zero = some z)
    (hsize : i.size = size) (hby : i.bytes = bytes) (hzs : z.cells.size = size) (hsz : 0 < size)
    (v : Value) (n : Nat) (xs : List Value) (hs : a.eval s = v) (hown : w.ownsRow base e size v n xs)
    (ad : Addr) (m c : Nat) (news : List Value) (hx : a.eval x = .slice (some ad) m c) (hl : news.length = m * size) (hnews : ∀ j u, news[j]? = some u → w.cell? (ad.add j) = some u) (h1 : ∀ u ∈ news, u.oneCell' = true)
    (h63 : n + m ≤ maxLen) (hbytes : (n + m) * bytes ≤ 140737488355328) (hbase : base ≤ w.heap.size) (H : Nat) (hH : w.heap.size = H)
    (h : ∀ (ao : Option Addr) (cap : Nat) (w' : World), w'.ownsRow base e size (.slice ao (n + m : Nat) cap) (n + m) (xs ++ news) → w.grownBy w' v.ownBlock → ((Value.slice ao (n + m : Nat) cap).ownBlock = v.ownBlock ∨ (Value.slice ao (n + m : Nat) cap).ownBlock = some H) → wpList P ops Q rest (a.put o.dst (.slice ao (n + m : Nat) cap)) w') :
    wpList P ops Q (o :: rest) a w :=
  wpList_plain hgd fun K hK => by
    have := step_append_at (P := P) w (ops := ops) (o := o) (a := a) (K := K) (Q := Q) (E := False) hgd s x t ho base e i z size bytes ht hi hz hsize hby hzs hsz v n xs hs hown ad m c news hx hl hnews h1 h63 hbytes hbase H hH (fun ao cap w' h2 h3 h4 => hK _ _ (h ao cap w' h2 h3 h4))
    rwa [if_pos (by simp [Region.wanted, hgd])] at this

theorem Str.grow2 {w wx w3 : World} {E : Env} {nx hold held : Nat} {v : Value} (h : Str w E nx hold held v) (hx : w.grownBy wx none) (hg : wx.grownBy w3 v.ownBlock) (vn : Value)
    (hat : vn.ownBlock = v.ownBlock ∨ vn.ownBlock = some wx.heap.size) : Str (w3.setCell ⟨E.S, 4, none⟩ vn) E nx hold held vn ∧ Kept E.S v vn w (w3.setCell ⟨E.S, 4, none⟩ vn) := by
  have hs1 := hx.size
  have hs2 := hg.size
  have hS := h.Sl
  have hI := h.ibl
  have blk : ∀ k, k < w.heap.size → some k ≠ v.ownBlock → w3.heap[k]? = w.heap[k]? := fun k hk hne =>
    (hg.block k (by omega) hne).trans (hx.block k hk (by simp))
  have cellS : ∀ i, w3.cell? ⟨E.S, i, none⟩ = w.cell? ⟨E.S, i, none⟩ := fun i => World.cell?_of_block (a := ⟨E.S, i, none⟩) (blk E.S hS h.Sv)
  have frS : ∀ i, w3.frozen? ⟨E.S, i, none⟩ = w.frozen? ⟨E.S, i, none⟩ := fun i => World.frozen?_of_block (a := ⟨E.S, i, none⟩) (blk E.S hS h.Sv)
  have offn : ∀ k, k < w.heap.size → some k ≠ v.ownBlock → some k ≠ vn.ownBlock := fun k hk hne e => by
    rcases hat with e' | e'
    · exact hne (e.trans e')
    · rw [e'] at e; simp only [Option.some.injEq] at e; omega
  refine ⟨⟨?_, ?_, ?_, ?_, ?_, ?_, ?_, ?_, ?_, h.ibS, offn _ hI h.ibv, ?_, ?_, offn _ hS h.Sv⟩, ?_⟩
  · rw [cell_set_ne _ (by omega), cellS]; exact h.c0
  · rw [cell_set_ne _ (by omega), cellS]; exact h.c1
  · rw [cell_set_ne _ (by omega), cellS]; exact h.c2
  · rw [cell_set_ne _ (by omega), cellS]; exact h.c3
  · exact World.cell?_setCell_same _ _ _ ((cellS 4).trans h.c4)
  · rw [cell_set_ne _ (by omega), cellS]; exact h.c5
  · rw [cell_set_ne _ (by omega), cellS]; exact h.c6
  · intro i; rw [World.frozen?_setCell, frS]; exact h.fz i
  · refine src_set (fun j hj => ?_) h.ibS _
    rw [World.cell?_of_block (a := ⟨E.ib, E.io + j, none⟩) (blk E.ib hI h.ibv)]; exact h.src j hj
  · simp [World.setCell]; omega
  · simp [World.setCell]; omega
  · refine ⟨hg.os.trans hx.os, hg.tape.trans hx.tape, hg.output.trans hx.output, ?_, fun k h1 h2 h3 => (Below.heap_setCell w3 _ vn k h2).trans (blk k h1 h3), ?_⟩
    · simp [World.setCell]; omega
    · rcases hat with e | e
      · exact .inl e
      · exact .inr fun k hk => by rw [e] at hk; simp only [Option.some.injEq] at hk; omega
end Go.Proofs.YtbiibhpknflagaaDoor
