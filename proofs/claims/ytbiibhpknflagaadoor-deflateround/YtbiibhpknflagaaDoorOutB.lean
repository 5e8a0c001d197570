/- What an append to what was put out leaves. -/
import Derived.Test.YtbiibhpknflagaaDoorOutA
import Derived.Deep.AppendLies
import Derived.Deep.RegionLaw
import Derived.Deep.DrawnRows
namespace Go.Proofs.YtbiibhpknflagaaDoor
open Go.RowKit Plain

theorem grownBy_setCell (w : World) (S i : Nat) (u : Value) : w.grownBy (w.setCell ⟨S, i, none⟩ u) (some S) :=
  ⟨rfl, rfl, rfl, by simp [World.setCell], fun k _ hne => Below.heap_setCell w ⟨S, i, none⟩ u k (fun e => hne (by rw [e]))⟩
theorem grownBy_allocD (w : World) (o : Obj) (row : Option Nat) : w.grownBy (w.alloc o).drew row := let h := World.grownBy_alloc w o row; ⟨h.os, h.tape, h.output, h.size, h.block⟩
theorem owns_set {w : World} {B : Nat} {e : TypeId} {s : Nat} {v : Value} {n : Nat} {xs : List Value} (h : w.ownsRow B e s v n xs) (S i : Nat) (u : Value) (hne : some S ≠ v.ownBlock) : (w.setCell ⟨S, i, none⟩ u).ownsRow B e s v n xs :=
  h.kept (grownBy_setCell w S i u) (.inr (Ne.symm hne))

/-- Behind 'append' to v (one new block first, where there is one) and the store of the new value: the stream, and what is kept. -/
theorem Str.grow {w wx w3 : World} {E : Env} {nx hold held : Nat} {v : Value} (h : Str w E nx hold held v) (hx : w.grownBy wx none) (hg : wx.grownBy w3 v.ownBlock) (vn : Value) (gn : Nat) (hvn : vn.ownBlock = some gn)
    (hat : v.ownBlock = some gn ∨ gn = wx.heap.size) : Str (w3.setCell ⟨E.S, 4, none⟩ vn) E nx hold held vn ∧ Kept E.S v vn w (w3.setCell ⟨E.S, 4, none⟩ vn) := by
  have hs1 := hx.size
  have hs2 := hg.size
  have hS := h.Sl
  have hI := h.ibl
  have blk : ∀ k, k < w.heap.size → some k ≠ v.ownBlock → w3.heap[k]? = w.heap[k]? := fun k hk hne =>
    (hg.block k (by omega) hne).trans (hx.block k hk (by simp))
  have cellS : ∀ i, w3.cell? ⟨E.S, i, none⟩ = w.cell? ⟨E.S, i, none⟩ := fun i => World.cell?_of_block (a := ⟨E.S, i, none⟩) (blk E.S hS h.Sv)
  have frS : ∀ i, w3.frozen? ⟨E.S, i, none⟩ = w.frozen? ⟨E.S, i, none⟩ := fun i => World.frozen?_of_block (a := ⟨E.S, i, none⟩) (blk E.S hS h.Sv)
  have offn : ∀ k, k < w.heap.size → some k ≠ v.ownBlock → some k ≠ vn.ownBlock := fun k hk hne e => by
    rw [hvn] at e
    rcases hat with e' | e'
    · exact hne (e.trans e'.symm)
    · simp only [Option.some.injEq] at e; omega
  refine ⟨⟨?_, ?_, ?_, ?_, ?_, ?_, ?_, ?_, ?_, h.ibS, offn _ hI h.ibv, ?_, ?_, offn _ hS h.Sv⟩, ?_⟩
  · rw [cell_set_ne _ (by omega), cellS]; exact h.c0
  · rw [cell_set_ne _ (by omega), cellS]; exact h.c1
  · rw [cell_set_ne _ (by omega), cellS]; exact h.c2
  · rw [cell_set_ne _ (by omega), cellS]; exact h.c3
  · exact World.cell?_setCell_same _ _ _ ((cellS 4).trans h.c4)
  · rw [cell_set_ne _ (by omega), cellS]; exact h.c5
  · rw [cell_set_ne _ (by omega), cellS]; exact h.c6
  · intro i; rw [World.frozen?_setCell, frS]; exact h.fz i
  · refine src_set (fun j hj => ?_) h.ibS _
    rw [World.cell?_of_block (a := ⟨E.ib, E.io + j, none⟩) (blk E.ib hI h.ibv)]; exact h.src j hj
  · simp [World.setCell]; omega
  · simp [World.setCell]; omega
  · refine ⟨hg.os.trans hx.os, hg.tape.trans hx.tape, hg.output.trans hx.output, ?_, fun k h1 h2 h3 => (Below.heap_setCell w3 _ vn k h2).trans (blk k h1 h3), ?_⟩
    · simp [World.setCell]; omega
    · rcases hat with e | e
      · exact .inl (hvn.trans e.symm)
      · exact .inr fun k hk => by rw [hvn] at hk; simp only [Option.some.injEq] at hk; omega
theorem Str.grow_cell {w wx w3 : World} {E : Env} {nx hold held : Nat} {v : Value} (h : Str w E nx hold held v) (hx : w.grownBy wx none) (hg : wx.grownBy w3 v.ownBlock) (i : Nat) : w3.cell? ⟨E.S, i, none⟩ = w.cell? ⟨E.S, i, none⟩ ∧ w3.frozen? ⟨E.S, i, none⟩ = false := by
  have hs1 := hx.size
  have hS := h.Sl
  have blk : w3.heap[E.S]? = w.heap[E.S]? := (hg.block E.S (by omega) h.Sv).trans (hx.block E.S hS (by simp))
  exact ⟨World.cell?_of_block (a := ⟨E.S, i, none⟩) blk, (World.frozen?_of_block (a := ⟨E.S, i, none⟩) blk).trans (h.fz i)⟩
/-- What comes out when n bytes are put out again that stand d back. -/
def rep (out : List Int) (d : Nat) : Nat → List Int
  | 0 => out
  | n + 1 => rep (out ++ [out.getD (out.length - d) 0]) d n
theorem rep_len (d : Nat) : ∀ (n : Nat) (out : List Int), (rep out d n).length = out.length + n
  | 0, out => rfl
  | n + 1, out => by rw [rep, rep_len d n]; simp; omega
theorem rep_isB (d : Nat) : ∀ (n : Nat) (out : List Int), IsB out → IsB (rep out d n)
  | 0, _, h => h
  | n + 1, out, h => by
    rw [rep]
    refine rep_isB d n _ fun x hx => ?_
    rcases List.mem_append.1 hx with hx | hx
    · exact h x hx
    · simp only [List.mem_singleton] at hx; subst hx; simpa using h.get (out.length - d)

theorem own_at {w : World} {B g n cp : Nat} {k : IntKind} {e : TypeId} {out : List Int} (h : w.ownsRow B e 1 (.slice (some ⟨g, 0, none⟩) n cp) n (out.map (Value.int k))) (hn : out.length = n) (q : Nat) (hq : q < n) : w.cell? ⟨g, q, none⟩ = some (.int k (out.getD q 0)) := by
  rw [h.cellAt q (by omega), List.getElem?_map, List.getElem?_eq_getElem (by omega)]
  simp [hn ▸ hq]
/-- The stream at bit p, with what was put out. -/
structure St (w : World) (E : Env) (B p : Nat) (v : Value) (out : List Int) : Prop where
  rd : Rd w E p v
  own : w.ownsRow B 5 1 v out.length (out.map (Value.int .u8))
  isB : IsB out
  hB : B ≤ w.heap.size
  le : (out.length : Int) ≤ E.most
theorem St.len {w : World} {E : Env} {B p : Nat} {v : Value} {out : List Int} (h : St w E B p v out) (hm : E.most ≤ 400000) : out.length ≤ 400000 := by have := h.le; omega
end Go.Proofs.YtbiibhpknflagaaDoor
