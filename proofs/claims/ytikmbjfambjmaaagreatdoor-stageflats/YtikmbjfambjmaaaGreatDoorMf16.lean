import Derived.Shelf.Strings.Cut
import Derived.Shelf.Bytes.SlSmallAll
import Derived.RowKit
import Derived.Below
import Derived.WalkKit
import Derived.WalkSpells
import Derived.WalkLawsBesides
import Derived.Deep.AppendLies
import Derived.Deep.LoopGhost
import Derived.Deep.RegionWith
import Derived.Deep.QuietTactic
import Derived.BigQuiet
import Derived.Laws.BitsAllLaws
import Derived.Laws.CopyOwn
import Derived.Laws.IdiomCopy
import Derived.Deep.RegionHeld3
import Derived.Deep.RegionLaw
import Derived.Deep.DrawnRows
import Derived.Deep.MidRow
import Derived.Maps.AppendAt
import Derived.Lib.IndexMore
import Derived.Lib.Strings
import Derived.Lib.ItoaNum
import Derived.Shelf.Strings.OnBuilder
import Derived.Shelf.LaysM
import Derived.Shelf.Strconv.Itoa3
import Derived.Maps.Range
import Derived.ArgAppend
import Derived.Laws.IdiomStrings
import Derived.Shelf.LaysC
import Derived.Shelf.Strconv.Itoa4
import Derived.Shelf.Strings.Search3
import Derived.Shelf.Strings.SlTrimAscii
import Derived.Shelf.Strings.IndexAnyAll
import Derived.Shelf.Strings.Prefix
import Derived.Shelf.Bytes.SlEqualAll
import Derived.Shelf.Strconv.ErrVarParseInt
import Derived.Shelf.Strconv.ErrVarAll
import Derived.Shelf.Small.Utf8
import Derived.Shelf.Small.Strs
import Derived.Deep.RegionHeld
import Derived.OrdersHeld
import Derived.Laws.RangeAny
import Derived.Laws.Runes
import Derived.WalkMore
import Derived.Lib.SlBytesRow
import Derived.Lib.OthersKept
import Derived.Lib.TrimUEq
import Derived.Lib.SpaceUEq
import Derived.Lib.QuoteLoop
import Derived.Defers
import Derived.Recover
import Derived.LaidEql
import Derived.Stop.Asserts
import Derived.RowKitTokens
import Derived.Laws.BytesArg
import Derived.Laws.Externs
import Derived.Shelf.Strconv.AtoiAll
import Derived.Maps.OwnSet
import Derived.Maps.OwnOps
import Derived.DeepKeys4
import Derived.ChangeKeysEq
import Derived.Laws.StructEq
import Derived.StillTail
import Derived.Lib.AppendZeros
import Derived.Shelf.SlLaysF0
import Derived.RangeFuncNested
import Derived.RangeFuncBound
import Derived.RangeFuncCalls
import Derived.RangeFuncLeaves
import Derived.RangeFuncBox
import Derived.Shelf.Abstract
import Derived.Shelf.RegionOpen
import Derived.OwnWalkIn
import Derived.TacticsInMore
import Derived.Sort.LoopGhostIn
import Derived.Great.BuildSlice
import Derived.WideKeyEntry
import Derived.Shelf.SlicesE.Clone
import Derived.Lib.Bytealg
import Derived.Lib.Bytes
import Derived.Sort.Statements
import Derived.Maps.RangeWalk
import Derived.Maps.OwnIn
import Derived.Deep.Onto
import Derived.Lib.AppendStr
import Derived.Shelf.SlSortCmp.NoneTotal
import Derived.OwnWalk
import Derived.Test.YtikmbjfambjmaaaGreatDoorMf15
namespace Go.Proofs.YtikmbjfambjmaaaGreatDoor
open Go.RowKit
set_option linter.unusedVariables false
set_option linter.unusedSimpArgs false
section
variable {P : Program} {ops : Array Oper} {o : Oper} {a : Act} {w : World} {K : Act → World → Prop} {Q : Exit → Act → World → Prop} {E : Prop}
end
end Go.Proofs.YtikmbjfambjmaaaGreatDoor
namespace Go.Proofs.YtikmbjfambjmaaaGreatDoor
open Go.RowKit
set_option linter.unusedVariables false
set_option linter.unusedSimpArgs false
theorem mapM_some {α β : Type} (f : α → Option β) : ∀ l : List α, (∀ i ∈ l, ∃ y, f i = some y) → ∃ ys, l.mapM f = some ys
  | [], _ => ⟨[], rfl⟩
  | a :: r, h => by
    obtain ⟨y, hy⟩ := h a (by simp)
    obtain ⟨ys, hys⟩ := mapM_some f r (fun i hi => h i (by simp [hi]))
    exact ⟨y :: ys, by simp [List.mapM_cons, hy, hys]⟩
end Go.Proofs.YtikmbjfambjmaaaGreatDoor
namespace Go.Proofs.YtikmbjfambjmaaaGreatDoor
open Go.RowKit
set_option linter.unusedVariables false
theorem cells5 : Tryz.prog.cellsOf 5 = 1 := by kernel_rfl
theorem plain5 : Tryz.prog.plainKey 5 = true := by kernel_rfl
end Go.Proofs.YtikmbjfambjmaaaGreatDoor
namespace Go.Proofs.YtikmbjfambjmaaaGreatDoor
open Go.RowKit
set_option linter.unusedVariables false
set_option linter.unusedSimpArgs false
theorem eqItems_any {P : Program} (d : Nat) (e : TypeId) (he : P.plainKey e = true) (hu : P.underlying e = some (.int .u8)) (xs ys : List Int) : ∀ (is : List Nat) (w : World), (∀ j ∈ is, j < xs.length ∧ j < ys.length) → (Op.eqItems (d + 1) e 1 (row .u8 xs).toArray (row .u8 ys).toArray is).run P w = .ok (is.all fun j => xs.getD j 0 == ys.getD j 0) w
  | [], w, _ => by simp [Op.eqItems]
  | j :: is, w, h => by
    have hj := h j (by simp)
    have hp : (part e (row .u8 xs).toArray j).run P w = .ok (.int .u8 (xs.getD j 0)) w := run_part_plain w he (by simpa using row_at .u8 xs j hj.1)
    have hq : (part e (row .u8 ys).toArray j).run P w = .ok (.int .u8 (ys.getD j 0)) w := run_part_plain w he (by simpa using row_at .u8 ys j hj.2)
    have ih := eqItems_any d e he hu xs ys is w (fun k hk => h k (by simp [hk]))
    simp only [Op.eqItems, Sem.run_bind, Nat.mul_one, hp, hq, Result.andThen_ok]
    by_cases hxy : xs.getD j 0 = ys.getD j 0
    · have h2 : xs[j]?.getD 0 = ys[j]?.getD 0 := by simpa using hxy
      simp [go_sem, hu, ih, h2]
    · have h2 : ¬ xs[j]?.getD 0 = ys[j]?.getD 0 := by simpa using hxy
      simp [go_sem, hu, ih, h2]
end Go.Proofs.YtikmbjfambjmaaaGreatDoor
namespace Go.Proofs.YtikmbjfambjmaaaGreatDoor
open Go.RowKit
set_option linter.unusedVariables false
section
variable {P : Program} {md : Region.Mode} {ops : Array Oper} {Q : Exit → Act → World → Prop} {S : World → Prop} {n : Nat}
end
end Go.Proofs.YtikmbjfambjmaaaGreatDoor
namespace Go.Proofs.YtikmbjfambjmaaaGreatDoor
open Go.RowKit
set_option linter.unusedVariables false
set_option linter.unusedSimpArgs false
section
variable {e : TypeId} {B B' g : Nat} {a : Option Addr} {cap : Nat} {ids : List (List Int)} {W W' : World}
end
end Go.Proofs.YtikmbjfambjmaaaGreatDoor
namespace Go.Proofs.YtikmbjfambjmaaaGreatDoor.Gr
open Go.RowKit
set_option linter.unusedVariables false
set_option linter.unusedSimpArgs false
theorem getD_mem {α : Type} (l : List α) (i : Nat) (d : α) (h : i < l.length) : l.getD i d ∈ l := by
  rw [List.getD_eq_getElem?_getD, List.getElem?_eq_getElem h]
  exact List.getElem_mem _
theorem take_snocG {α : Type} (d : α) (s : List α) (i : Nat) (h : i < s.length) : s.take (i + 1) = s.take i ++ [s.getD i d] := by
  rw [List.take_add_one, List.getD_eq_getElem?_getD, List.getElem?_eq_getElem h]; rfl
section
variable {α : Type} (enc : α → List Value) (k : Nat) (d : α)
structure Px (w : World) (a : Option Addr) (cap : Nat) (l : List α) : Prop where
  capl : l.length ≤ cap
  at_ : 0 < l.length → ∃ b off, a = some ⟨b, off, none⟩ ∧ b < w.heap.size ∧ ∀ i, i < l.length → w.rangeAt b (off + i * k) (enc (l.getD i d))
  nil : a = none → cap = 0
structure Bx (e : TypeId) (w0 w : World) (B : Nat) (v : Value) (l : List α) : Prop where
  below : Below B w0 w
  own : w.ownsRow B e k v l.length (l.flatMap enc)
  le : B ≤ w.heap.size
end
section
variable {α : Type} {enc : α → List Value} {k : Nat} {d : α}
theorem Px.below {w w' : World} {a : Option Addr} {cap : Nat} {l : List α} (h : Px enc k d w a cap l) (hb : Below w.heap.size w w') : Px enc k d w' a cap l :=
  ⟨h.capl, fun h0 => by
    obtain ⟨b, off, e1, e2, e3⟩ := h.at_ h0
    exact ⟨b, off, e1, Nat.lt_of_lt_of_le e2 hb.size, fun i hi j v hv => (hb.cell (p := ⟨b, off + i * k + j, none⟩) e2).trans (e3 i hi j v hv)⟩, h.nil⟩
theorem Px.grown {w w' : World} {a : Option Addr} {cap K : Nat} {l : List α} (h : Px enc k d w a cap l) (hK : ∀ p : Addr, a = some p → p.block ≠ K) (hg : w.grownBy w' (some K)) : Px enc k d w' a cap l :=
  ⟨h.capl, fun h0 => by
    obtain ⟨b, off, e1, e2, e3⟩ := h.at_ h0
    refine ⟨b, off, e1, Nat.lt_of_lt_of_le e2 hg.size, fun i hi j v hv => ?_⟩
    rw [World.cell?_of_block (a := ⟨b, off + i * k + j, none⟩) (hg.block b e2 (fun e => hK _ e1 (by cases e; rfl)))]
    exact e3 i hi j v hv, h.nil⟩
theorem Px.take {w : World} {a : Option Addr} {cap : Nat} {l : List α} (h : Px enc k d w a cap l) (j : Nat) : Px enc k d w a cap (l.take j) :=
  ⟨by rw [List.length_take]; have := h.capl; omega, fun h0 => by
    rw [List.length_take] at h0
    obtain ⟨b, off, e1, e2, e3⟩ := h.at_ (by omega)
    refine ⟨b, off, e1, e2, fun i hi => ?_⟩
    rw [List.length_take] at hi
    have := e3 i (by omega)
    rw [show (l.take j).getD i d = l.getD i d by rw [List.getD_eq_getElem?_getD, List.getD_eq_getElem?_getD, List.getElem?_take, if_pos (by omega)]]
    exact this, h.nil⟩
theorem fX_len (l : List α) (h : ∀ x ∈ l, (enc x).length = k) : (l.flatMap enc).length = l.length * k := by
  induction l with
  | nil => simp
  | cons x l ih =>
    have h1 := ih (fun y hy => h y (by simp [hy]))
    have h2 := h x (by simp)
    simp only [List.flatMap_cons, List.length_append, List.length_cons, Nat.add_mul] at h1 ⊢
    omega
theorem fX_one (l : List α) (h : ∀ x, ∀ v ∈ enc x, v.oneCell' = true) : ∀ v ∈ l.flatMap enc, v.oneCell' = true := by
  intro v hv
  obtain ⟨x, _, hx⟩ := List.mem_flatMap.1 hv
  exact h x v hx
theorem fX_at : ∀ (l : List α) (h : ∀ x ∈ l, (enc x).length = k) (i j : Nat), i < l.length → j < k → (l.flatMap enc)[i * k + j]? = (enc (l.getD i d))[j]?
  | [], h, i, j, hi, hj => by simp at hi
  | x :: r, h, 0, j, hi, hj => by
    have h2 := h x (by simp)
    simp only [List.flatMap_cons, Nat.zero_mul, Nat.zero_add]
    rw [List.getElem?_append_left (by omega)]
    rfl
  | x :: r, h, i + 1, j, hi, hj => by
    have h2 := h x (by simp)
    have := fX_at r (fun y hy => h y (by simp [hy])) i j (by simpa using hi) hj
    simp only [List.flatMap_cons]
    rw [List.getElem?_append_right (by rw [h2, Nat.add_mul]; omega), h2, show (i + 1) * k + j - k = i * k + j by rw [Nat.add_mul]; omega, this]
    rfl
theorem Px.cells {w : World} {b off cap : Nat} {l : List α} (hk : 0 < k) (h : Px enc k d w (some ⟨b, off, none⟩) cap l) (hw : ∀ x ∈ l, (enc x).length = k) : ∀ (j : Nat) (u : Value), (l.flatMap enc)[j]? = some u → w.cell? ((⟨b, off, none⟩ : Addr).add j) = some u := by
  intro j u hj
  have hlt := (List.getElem?_eq_some_iff.1 hj).1
  rw [fX_len l hw] at hlt
  have hd : j / k < l.length := Nat.div_lt_of_lt_mul (by rw [Nat.mul_comm]; exact hlt)
  have hm : j % k < k := Nat.mod_lt _ hk
  obtain ⟨b', off', e1, e2, e3⟩ := h.at_ (Nat.lt_of_le_of_lt (Nat.zero_le _) hd)
  cases e1
  have e : j / k * k + j % k = j := by rw [Nat.mul_comm]; exact Nat.div_add_mod j k
  have hf := fX_at (d := d) l hw (j / k) (j % k) hd hm
  rw [e, hj] at hf
  have := e3 (j / k) hd (j % k) u hf.symm
  rw [addr_add, ← this]
  congr 2
  omega
theorem Bx.alloc {e : TypeId} {w0 w : World} {B : Nat} {v : Value} {l : List α} (h : Bx enc k e w0 w B v l) (o : Obj) : Bx enc k e w0 (w.alloc o) B v l :=
  ⟨h.below.alloc h.le o, h.own.alloc o, Nat.le_trans h.le (by simp)⟩
theorem bx_nil (e : TypeId) (w : World) (B : Nat) (h : B ≤ w.heap.size) : Bx enc k e w w B (.slice none 0 0) [] := ⟨Below.refl _ _, ⟨by simp, .inl ⟨rfl, rfl⟩⟩, h⟩
theorem Bx.carry {e : TypeId} {w0 w w' : World} {B : Nat} {v : Value} {l : List α} (h : Bx enc k e w0 w B v l) (hb : Below w.heap.size w w') : Bx enc k e w0 w' B v l :=
  ⟨h.below.trans (hb.mono h.le), h.own.kept (row := none) ⟨hb.os, hb.tape, hb.output, hb.size, fun k hk _ => hb.block k hk⟩ (by cases h : v.ownBlock <;> simp), Nat.le_trans h.le hb.size⟩
theorem Bx.px {e : TypeId} {w0 w : World} {B : Nat} {v : Value} {l : List α} (h : Bx enc k e w0 w B v l) (hw : ∀ x ∈ l, (enc x).length = k) : ∃ a cap, v = .slice a l.length cap ∧ Px enc k d w a cap l ∧ (∀ p : Addr, a = some p → B ≤ p.block ∧ p.block < w.heap.size) ∧ (a = none ∨ ∃ b, a = some ⟨b, 0, none⟩) := by
  obtain ⟨hl, ⟨hv, h0⟩ | ⟨g, cap, cur, hv, hb, hh, hkc, hcm, hsz, htk⟩⟩ := h.own
  · refine ⟨none, 0, by rw [hv, h0], ⟨by omega, fun h => by omega, fun _ => rfl⟩, (fun p hp => by cases hp), .inl rfl⟩
  · refine ⟨_, cap, hv, ⟨hkc, fun _ => ⟨g, 0, rfl, lt_of_some hh, fun i hi j v hv => ?_⟩, fun e => by cases e⟩, (fun p hp => by cases hp; exact ⟨hb, lt_of_some hh⟩), .inr ⟨g, rfl⟩⟩
    have hj : j < k := by
      have := (List.getElem?_eq_some_iff.1 hv).1
      rw [hw _ (getD_mem l i d hi)] at this
      exact this
    have hf := fX_at (d := d) l hw i j hi hj
    rw [hv] at hf
    rw [Nat.zero_add, cell_of_row w g (i * k + j) _ _ _ hh]
    have hlt : i * k + j < l.length * k := by
      have := (List.getElem?_eq_some_iff.1 hf).1
      rw [fX_len l hw] at this
      exact this
    rw [← htk, List.getElem?_take_of_lt hlt] at hf
    simpa using hf
end
end Go.Proofs.YtikmbjfambjmaaaGreatDoor.Gr
namespace Go.Proofs.YtikmbjfambjmaaaGreatDoor.Gr
open Go.RowKit
set_option linter.unusedVariables false
set_option linter.unusedSimpArgs false
def IdW (x : List Int) : Prop := x.length = 20 ∧ IsB x
abbrev idV (x : List Int) : Value := .agg (row .u8 x).toArray
theorem all_eq20 (x y : List Int) (hx : x.length = 20) (hy : y.length = 20) : ((List.range 20).all fun j => x.getD j 0 == y.getD j 0) = decide (x = y) := by
  by_cases h : x = y
  · subst h
    simp
  · rw [decide_eq_false h, Bool.eq_false_iff]
    intro hall
    refine h (List.ext_getElem (by rw [hx, hy]) (fun j h1 h2 => ?_))
    have := List.all_eq_true.1 hall j (List.mem_range.2 (by omega))
    simpa [h1, h2] using this
theorem eq41 (x y : List Int) (hx : x.length = 20) (hy : y.length = 20) (w : World) : (Op.equalIn 10000 23 (idV x) (idV y)).run Tryz.prog w = .ok (decide (x = y)) w := by
  obtain ⟨i5, hi, -⟩ := info_parts Tryz.info5
  have h1 := eqItems_any (P := Tryz.prog) 9998 5 plain5 Tryz.underlying5 x y (List.range 20) w (fun j hj => by rw [hx, hy]; exact ⟨List.mem_range.1 hj, List.mem_range.1 hj⟩)
  rw [all_eq20 x y hx hy] at h1
  rw [show (10000 : Nat) = 9999 + 1 from rfl, run_equalIn_array w 9999 _ _ Tryz.underlying23 hi, cells5]
  exact h1
theorem types194 : Tryz.prog.types.size = 280 := by kernel_rfl
theorem cellsOf42 : Tryz.prog.cellsOf 24 = 20 := by kernel_rfl
theorem keyed42 : Maps.Keyed Tryz.prog 24 := Maps.Keyed.of_law (deep_law_laid (m := 10) (by kernel_rfl) (by decide) (of_decide_eq_true (by kernel_rfl)) (by kernel_rfl) (by kernel_rfl))
theorem key_id (x : List Int) (h : x.length = 20) (hb : IsB x) : ∃ kl, keyOf Tryz.prog 24 (idV x) = some kl := by
  have hlen : (row .u8 x).length = 20 := by rw [row_len]; exact h
  have hform : (idV x).formed Tryz.prog 24 = true := by
    simp [Value.formed, Tryz.underlying24, hlen, cellsOf42]
  have hlits : ∃ ls, Tryz.prog.keyLits 281 24 (row .u8 x) = some ls := by
    obtain ⟨ys, hys⟩ := mapM_some (fun i => Tryz.prog.keyLits 280 5 (((row .u8 x).drop (i * Tryz.prog.cellsOf 5)).take (Tryz.prog.cellsOf 5))) (List.range 20) (fun i hi => by
      have hi2 : i < 20 := List.mem_range.1 hi
      refine ⟨[.int .u8 (x[i]'(by omega))], ?_⟩
      have e : ((row .u8 x).drop (i * Tryz.prog.cellsOf 5)).take (Tryz.prog.cellsOf 5) = [.int .u8 (x[i]'(by omega))] := by
        rw [cells5, Nat.mul_one, List.drop_eq_getElem_cons (by omega)]
        simp [row]
      rw [e]
      have hw : (Lit.int .u8 (x[i]'(by omega))).wf = true := by
        have := hb _ (List.getElem_mem (l := x) (n := i) (by omega))
        exact WalkArith.wf_u8 ⟨this.1, by omega⟩
      unfold Program.keyLits
      rw [Tryz.underlying5]
      simp [hw])
    refine ⟨ys.flatten, ?_⟩
    unfold Program.keyLits
    rw [Tryz.underlying24]
    simp only [cellsOf42, hlen, if_true]
    rw [hys]
    rfl
  obtain ⟨ls, hls⟩ := hlits
  refine ⟨.string (keyBytes ls), ?_⟩
  unfold keyOf
  rw [Tryz.underlying24]
  simp only
  rw [if_pos (by rw [hform]; kernel_rfl), types194]
  show Option.map _ (Tryz.prog.keyLits (280 + 1) 24 (row .u8 x)) = _
  rw [hls]
  rfl
theorem row_inj {x y : List Int} (h : idV x = idV y) : x = y := by
  injection h with h
  have h2 : row .u8 x = row .u8 y := by simpa using congrArg Array.toList h
  unfold row at h2
  exact List.map_inj_right (fun a b e => by injection e) |>.1 h2
end Go.Proofs.YtikmbjfambjmaaaGreatDoor.Gr
namespace Go.Proofs.YtikmbjfambjmaaaGreatDoor.Gr
open Go.RowKit
open Go.ChangeMaps (setBlock heap_setBlock_same heap_setBlock_other)
set_option linter.unusedVariables false
set_option linter.unusedSimpArgs false
theorem key_eq {x y : List Int} {kl : Lit} (h1 : keyOf Tryz.prog 24 (idV x) = some kl) (h2 : keyOf Tryz.prog 24 (idV y) = some kl) : x = y := row_inj (keyed42.inj h1 h2)
end Go.Proofs.YtikmbjfambjmaaaGreatDoor.Gr
namespace Go.Proofs.YtikmbjfambjmaaaGreatDoor.Gr
open Go.RowKit
set_option linter.unusedVariables false
section
variable {P : Program} {md : Region.Mode} {ops : Array Oper} {Q : Exit → Act → World → Prop} {S : World → Prop} {n : Nat}
end
end Go.Proofs.YtikmbjfambjmaaaGreatDoor.Gr
namespace Go.Proofs.YtikmbjfambjmaaaGreatDoor.Gr
open Go.RowKit Go.Shelf
set_option linter.unusedVariables false
set_option linter.unusedSimpArgs false
end Go.Proofs.YtikmbjfambjmaaaGreatDoor.Gr
namespace Go.Proofs.YtikmbjfambjmaaaGreatDoor.Gr
open Go.RowKit
set_option linter.unusedVariables false
set_option linter.unusedSimpArgs false
section
variable {P : Program} {md : Region.Mode} {ops : Array Oper} {Q : Exit → Act → World → Prop} {S : World → Prop} {br : Nat → Bool}
end
section
variable {α : Type} {enc : α → List Value} {k : Nat}
end
end Go.Proofs.YtikmbjfambjmaaaGreatDoor.Gr
namespace Go.Proofs.YtikmbjfambjmaaaGreatDoor.Gr
open Go.RowKit
set_option linter.unusedVariables false
set_option linter.unusedSimpArgs false
section
variable {α : Type} {enc : α → List Value} {k : Nat}
end
end Go.Proofs.YtikmbjfambjmaaaGreatDoor.Gr
namespace Go.Proofs.YtikmbjfambjmaaaGreatDoor.Gr
open Go.RowKit
set_option linter.unusedVariables false
set_option linter.unusedSimpArgs false
section
end
end Go.Proofs.YtikmbjfambjmaaaGreatDoor.Gr
namespace Go.Proofs.YtikmbjfambjmaaaGreatDoor
open Go.RowKit Go.Shelf Go.Maps
variable [Inhabited Er]
set_option linter.unusedVariables false
set_option linter.unusedSectionVars false
set_option linter.unusedSimpArgs false
attribute [local go_sem] Oper.semAt_some
end Go.Proofs.YtikmbjfambjmaaaGreatDoor
namespace Go.Proofs.YtikmbjfambjmaaaGreatDoor
open Go.RowKit Go.Shelf Go.Maps
variable [Inhabited Er]
set_option linter.unusedVariables false
set_option linter.unusedSectionVars false
set_option linter.unusedSimpArgs false
attribute [local go_sem] Oper.semAt_some
end Go.Proofs.YtikmbjfambjmaaaGreatDoor
namespace Go.Proofs.YtikmbjfambjmaaaGreatDoor
open Go.RowKit
set_option linter.unusedVariables false
set_option linter.unusedSimpArgs false
section
variable {w w0 : World} {ops : Array Oper} {rest : List Oper} {o : Oper} {a : Act} {Q : Exit → Act → World → Prop}
end
end Go.Proofs.YtikmbjfambjmaaaGreatDoor
namespace Go.Proofs.YtikmbjfambjmaaaGreatDoor.Gr
open Go.RowKit
set_option linter.unusedVariables false
set_option linter.unusedSimpArgs false
structure Oj where
  k : Int
  a : Option Addr
  cap : Nat
  zs : List Int
abbrev dO : Oj := ⟨0, none, 0, []⟩
def oid (o : Oj) : List Int := idZ o.k o.zs
def oer (o : Oj) : Int := errE o.k o.zs.length
def encO (o : Oj) : List Value := [.int .i64 o.k, .slice o.a o.zs.length o.cap]
theorem oid_w (o : Oj) : IdW (oid o) := by
  refine ⟨idZ_len _ _, fun n hn => ?_⟩
  unfold oid idZ at hn
  split at hn
  · unfold sha outAt at hn
    obtain ⟨i, _, rfl⟩ := List.mem_map.1 hn
    split
    · exact ⟨Int.emod_nonneg _ (by decide), Int.emod_lt_of_pos _ (by decide)⟩
    · exact ⟨by decide, by decide⟩
  · rw [List.eq_of_mem_replicate hn]; exact ⟨by decide, by decide⟩
structure Ot (w : World) (a : Option Addr) (cap : Nat) (os : List Oj) : Prop where
  px : Px encO 2 dO w a cap os
  sl : ∀ o ∈ os, Sl w o.a o.cap o.zs
  isb : ∀ o ∈ os, IsB o.zs
  len : ∀ o ∈ os, o.zs.length ≤ 40000
  few : os.length ≤ 60
theorem Ot.below {w w' : World} {a : Option Addr} {cap : Nat} {os : List Oj} (h : Ot w a cap os) (hb : Below w.heap.size w w') : Ot w' a cap os :=
  ⟨h.px.below hb, fun o ho => (h.sl o ho).below hb, h.isb, h.len, h.few⟩
structure Ow (B : Nat) (w : World) (a : Option Addr) (cap : Nat) (os : List Oj) : Prop where
  all : ∀ W, Below B w W → Ot W a cap os
theorem ow_of {w : World} {a : Option Addr} {cap : Nat} {os : List Oj} (h : Ot w a cap os) : Ow w.heap.size w a cap os := ⟨fun _ hW => h.below hW⟩
theorem Ow.go {B B' : Nat} {w w' : World} {a : Option Addr} {cap : Nat} {os : List Oj} (h : Ow B w a cap os) (hb : Below B w w') (hB : B ≤ B') : Ow B' w' a cap os := ⟨fun W hW => h.all W (hb.trans (hW.mono hB))⟩
theorem Ow.at {B : Nat} {w W : World} {a : Option Addr} {cap : Nat} {os : List Oj} (h : Ow B w a cap os) (hb : Below B w W) {i : Nat} (hi : i < os.length) : ∃ b off, a = some ⟨b, off, none⟩ ∧ W.rangeAt b (off + i * 2) (encO (os.getD i dO)) ∧ os.getD i dO ∈ os := by
  obtain ⟨b, off, e1, _, e3⟩ := (h.all W hb).px.at_ (by omega)
  exact ⟨b, off, e1, e3 i hi, getD_mem os i dO hi⟩
structure Nw (ty : TypeId) (z : Array Value) (W W' : World) (H : Nat) (R : List Value) : Prop where
  h : W.heap.size = H
  w : (W.alloc (.cells z ty)).setRow W.heap.size R.toArray = W'
  d : (W.alloc (.cells z ty)).heap[W.heap.size]? = some (.cells z ty (0, 0))
  below : Below H W W'
  box : W'.heap[H]? = some (.cells R.toArray ty (0, 0))
  lt : H < W'.heap.size
theorem Nw.at {ty : TypeId} {z : Array Value} {W W' : World} {H : Nat} {R : List Value} (h : Nw ty z W W' H R) : W'.rangeAt H 0 R := range_row h.box
theorem nw (ty : TypeId) (z : Array Value) (W : World) (R : List Value) : ∃ H W', Hid (Nw ty z W W' H R) := by
  have D0 := heap_alloc_new W (.cells z ty)
  have hb := setRow_heap (W.alloc (.cells z ty)) W.heap.size z R.toArray ty (0, 0) D0
  exact ⟨W.heap.size, _, hid ⟨rfl, rfl, D0, below_setRow ((Below.refl _ W).alloc (Nat.le_refl _) _) (Nat.le_refl _) _, hb, lt_of_some hb⟩⟩
structure Rw (x : List Int) (R : List Value) : Prop where
  e : row .u8 x = R
  i31 : (Tryz.prog.info? 23).map (·.size) = some R.length
  i56 : (Tryz.prog.info? 24).map (·.size) = some R.length
  j31 : (Tryz.prog.info? 23).map (·.size) = some R.toArray.size
  j56 : (Tryz.prog.info? 24).map (·.size) = some R.toArray.size
  o : R.toArray.all (·.oneCell') = true
  z : (row .u8 z20).toArray.size = R.toArray.size
theorem rw_ {x : List Int} (h : x.length = 20) : ∃ R, Hid (Rw x R) := by
  have hl : (row .u8 x).length = 20 := by rw [row_len]; exact h
  have hs : (row .u8 x).toArray.size = 20 := by rw [List.size_toArray]; exact hl
  exact ⟨_, hid ⟨rfl, by rw [hl]; exact Tryz.size23, by rw [hl]; exact Tryz.size24, by rw [hs]; exact Tryz.size23, by rw [hs]; exact Tryz.size24, all_oneCell_toArray (row_one _ _), by rw [hs]; rfl⟩⟩
end Go.Proofs.YtikmbjfambjmaaaGreatDoor.Gr
namespace Go.Proofs.YtikmbjfambjmaaaGreatDoor.Gr
open Go.RowKit
set_option linter.unusedVariables false
set_option linter.unusedSimpArgs false
theorem refID_o (o : Oj) (w : World) (hl : o.zs.length ≤ 40000) (hz : IsB o.zs) (hS : Sl w o.a o.cap o.zs) {R RO : List Value} (hR : Rw (oid o) R) (hO : encO o = RO) {er : Int} (he : oer o = er) :
    Calls Tryz.prog 6 #[.agg RO.toArray] w fun e w' => e = .returned (.tuple #[.agg R.toArray, .int .i64 er]) ∧ Below w.heap.size w w' := by
  have := refID_any o.k o.a o.cap o.zs w (by omega) hz hS
  rw [← hO, ← hR.e, ← he]
  exact this
end Go.Proofs.YtikmbjfambjmaaaGreatDoor.Gr
namespace Go.Proofs.YtikmbjfambjmaaaGreatDoor.Gr
open Go.RowKit Go.Shelf Go.Maps
set_option linter.unusedVariables false
set_option linter.unusedSectionVars false
set_option linter.unusedSimpArgs false
attribute [local go_sem] Oper.semAt_some
structure Mv (w w' : World) (v v' : Value) : Prop where
  os : w'.os = w.os
  tape : w'.tape = w.tape
  output : w'.output = w.output
  size : w.heap.size ≤ w'.heap.size
  blk : ∀ k, k < w.heap.size → some k ≠ v.ownBlock → w'.heap[k]? = w.heap[k]?
  at_ : v'.ownBlock = v.ownBlock ∨ ∀ k, v'.ownBlock = some k → w.heap.size ≤ k
theorem Mv.refl (w : World) (v : Value) : Mv w w v v := ⟨rfl, rfl, rfl, Nat.le_refl _, fun _ _ _ => rfl, .inl rfl⟩
theorem Mv.trans {a b c : World} {u v x : Value} (h : Mv a b u v) (k : Mv b c v x) : Mv a c u x := by
  have hs := h.size
  refine ⟨k.os.trans h.os, k.tape.trans h.tape, k.output.trans h.output, Nat.le_trans h.size k.size, fun i hi hn => ?_, ?_⟩
  · refine (k.blk i (by omega) (fun e => ?_)).trans (h.blk i hi hn)
    rcases h.at_ with g | g
    · exact hn (e.trans g)
    · have := g i e.symm; omega
  · rcases k.at_ with g | g
    · rcases h.at_ with g' | g'
      · exact .inl (g.trans g')
      · exact .inr fun i hi => g' i (g ▸ hi)
    · exact .inr fun i hi => by have := g i hi; omega
theorem Mv.app {w wx w1 : World} {v v' : Value} (h0 : w.grownBy wx none) (hg : wx.grownBy w1 v.ownBlock) (hl : v'.ownBlock = v.ownBlock ∨ v'.ownBlock = some wx.heap.size) : Mv w w1 v v' := by
  have hs := h0.size
  refine ⟨hg.os.trans h0.os, hg.tape.trans h0.tape, hg.output.trans h0.output, Nat.le_trans h0.size hg.size, fun k hk hn => (hg.block k (by omega) hn).trans (h0.block k hk (by simp)), ?_⟩
  rcases hl with h | h
  · exact .inl h
  · exact .inr fun k hk => by rw [h] at hk; simp at hk; omega
theorem Mv.below {w w' : World} {v v' : Value} (h : Mv w w' v v') {B : Nat} (hB : ∀ k, v.ownBlock = some k → B ≤ k) (hw : B ≤ w.heap.size) : Below B w w' :=
  ⟨h.os, h.tape, h.output, h.size, fun k hk => h.blk k (by omega) (fun e => by have := hB k e.symm; omega)⟩
theorem Mv.drew {w w' : World} {v v' : Value} (h : Mv w w' v v') (n : Nat) : Mv w (w'.drewN n) v v' := ⟨h.os, h.tape, h.output, h.size, h.blk, h.at_⟩
theorem Mv.grow {A B : World} (v : Value) (h : A.grownBy B none) : Mv A B v v := ⟨h.os, h.tape, h.output, h.size, fun k hk _ => h.block k hk (by simp), .inl rfl⟩
theorem Mv.put {w W : World} {v u : Value} (h : Mv w W v u) {l : Nat} (o : Obj) (hl : w.heap.size ≤ l) : Mv w (W.putObj l o) v u :=
  ⟨h.os, h.tape, h.output, by rw [World.putObj_size]; exact h.size, fun k hk hn => (World.putObj_heap_other (by omega)).trans (h.blk k hk hn), h.at_⟩
end Go.Proofs.YtikmbjfambjmaaaGreatDoor.Gr
namespace Go.Proofs.YtikmbjfambjmaaaGreatDoor.Gr
open Go.RowKit Go.Shelf Go.Maps
set_option linter.unusedVariables false
set_option linter.unusedSectionVars false
set_option linter.unusedSimpArgs false
attribute [local go_sem] Oper.semAt_some
end Go.Proofs.YtikmbjfambjmaaaGreatDoor.Gr
namespace Go.Proofs.YtikmbjfambjmaaaGreatDoor.Gr
open Go.RowKit Go.Shelf Go.Maps
set_option linter.unusedVariables false
set_option linter.unusedSectionVars false
set_option linter.unusedSimpArgs false
attribute [local go_sem] Oper.semAt_some
end Go.Proofs.YtikmbjfambjmaaaGreatDoor.Gr
namespace Go.Proofs.YtikmbjfambjmaaaGreatDoor.Gr
open Go.RowKit
set_option linter.unusedVariables false
set_option linter.unusedSimpArgs false
section
variable {α : Type} {enc : α → List Value} {k : Nat} {d : α}
theorem wpList_bx_slM {w w0 : World} {ops : Array Oper} {rest : List Oper} {o : Oper} {a : Act} {Q : Exit → Act → World → Prop} (hgd : o.guard = none) (s x : Operand) (t e : TypeId) (hu : Tryz.prog.underlying t = some (.slice e)) {z : Value} {by_ : Nat} (hin : (Tryz.prog.info? e).map (fun i => (i.zero, i.size, i.bytes)) = some (some z, k, by_)) (hz : z.cells.size = k) (hk : 0 < k) (hby : by_ ≤ 100)
    (hone : ∀ x, ∀ v ∈ enc x, v.oneCell' = true)
    (ho : o.op = .call { callee := .builtin .append, args := #[s, x], argTypes := #[t, t] }) (B : Nat) (v : Value) (l : List α) (hs : a.eval s = v) (h : Bx enc k e w0 w B v l)
    (ax : Option Addr) (cx : Nat) (m : List α) (hx : a.eval x = .slice ax m.length cx) (hP : Px enc k d w ax cx m) (hw : ∀ x ∈ m, (enc x).length = k) (hl : l.length + m.length ≤ 100000)
    (hK : ∀ v' w', Bx enc k e w0 w' B v' (l ++ m) → w.grownBy w' v.ownBlock → Mv w w' v v' → wpList Tryz.prog ops Q rest (a.put o.dst v') w') : wpList Tryz.prog ops Q (o :: rest) a w := by
  obtain ⟨i, hi, hz0, hz1, hz2⟩ := info_parts hin
  cases ax with
  | none =>
    have hc : cx = 0 := hP.nil rfl
    have hcl := hP.capl
    obtain rfl : m = [] := List.length_eq_zero_iff.1 (by omega)
    subst hc
    refine wpList_plain hgd fun K hK' => ?_
    have hr := run_append_owned_none (P := Tryz.prog) w B t o.type e i k hu hi v _ _ h.own
    unfold Oper.wp execOp
    simp only [List.length_nil] at hx
    simp only [ho, resolve, invoke, builtin, Sem.run_bind, Sem.run_pure, Result.andThen_ok, List.map_toArray, List.map_cons, List.map_nil, hs, hx, hr]
    exact hK' _ _ (hK v w (by simpa using h) ⟨rfl, rfl, rfl, Nat.le_refl _, fun _ _ _ => rfl⟩ (Mv.refl _ _))
  | some ad =>
    obtain ⟨bk, of, fr⟩ := ad
    by_cases h0 : m.length = 0
    · obtain rfl : m = [] := List.length_eq_zero_iff.1 h0
      refine wpList_append_own_at w hgd s x t ho B e i z k by_ hu hi hz0 hz1 hz2 hz hk v _ _ hs h.own ⟨bk, of, fr⟩ 0 cx [] hx (by simp) (fun j u hj => by cases hj) (fun u hu => by cases hu) (by unfold maxLen; omega) (by have h2 := Nat.mul_le_mul hl hby; exact Nat.le_trans h2 (by decide)) h.le ?_
      intro v' w' h1 h2 h3 h4
      refine hK v' w' ⟨h.below.grown h2 h.le (fun k hk => (own_lt h.own k hk).1), ?_, Nat.le_trans h.le h2.size⟩ h2 (Mv.app ⟨rfl, rfl, rfl, Nat.le_refl _, fun _ _ _ => rfl⟩ h2 h4)
      simpa using h1
    · obtain ⟨b', off', e1, _⟩ := hP.at_ (by omega)
      cases e1
      refine wpList_append_own_at w hgd s x t ho B e i z k by_ hu hi hz0 hz1 hz2 hz hk v _ _ hs h.own ⟨bk, of, none⟩ m.length cx (m.flatMap enc) hx (fX_len m hw) (hP.cells hk hw) (fX_one m hone) (by unfold maxLen; omega) (by have h2 := Nat.mul_le_mul hl hby; exact Nat.le_trans h2 (by decide)) h.le ?_
      intro v' w' h1 h2 h3 h4
      refine hK v' w' ⟨h.below.grown h2 h.le (fun k hk => (own_lt h.own k hk).1), ?_, Nat.le_trans h.le h2.size⟩ h2 (Mv.app ⟨rfl, rfl, rfl, Nat.le_refl _, fun _ _ _ => rfl⟩ h2 h4)
      rw [List.length_append, List.flatMap_append]
      exact h1
end
theorem sL {α : Type} : (∀ (l : List α) (i : Nat) (v : α), l.toArray.setIfInBounds i v = (l.set i v).toArray) ∧ (∀ (l : List α) (a b : α), (a :: l).set 0 b = b :: l) ∧ (∀ (l : List α) (n : Nat) (a b : α), (a :: l).set (n + 1) b = a :: l.set n b) := ⟨fun l i v => List.setIfInBounds_toArray .., fun _ _ _ => rfl, fun _ _ _ _ => rfl⟩
theorem takeY {P : Program} {md : Region.Mode} {Q : Exit → Act → World → Prop} {S : World → Prop} {l : List Oper} {i : Nat} {oi : Oper} {v : Value} {fuel : Nat} {listed : Array Bool} {a : Act} {w : World} (hS : S w)
    (hy : ∀ w', S w' → (execOp a.eval oi).run P w' = .ok (.value v) w')
    (h : wpAnyH P md l.toArray Q S fuel (listed.setIfInBounds i true) (a.put oi.dst v) w) (hi : l[i]? = some oi := by rfl)
    (hs : Region.noSelect l.toArray = true := by kernel_rfl) (hf : Region.free md l.toArray listed i = true := by kernel_rfl) (hr : (Region.ready md l.toArray listed).contains i = true := by kernel_rfl) (hQ : ∀ c a w, Q (.panic c) (a.put oi.dst v) w → Q (.panic c) a w := by exact fun _ _ _ h => h) (hg : Region.wanted oi (yielded l.toArray a.tmps) = true := by rfl) :
    wpAnyH P md l.toArray Q S (fuel + 1) listed a w := takeL hi hs hf hr hQ (Or.inl ⟨hg, hy⟩) hS h
end Go.Proofs.YtikmbjfambjmaaaGreatDoor.Gr
namespace Go.Proofs.YtikmbjfambjmaaaGreatDoor.Gr
open Go.RowKit
set_option linter.unusedVariables false
set_option linter.unusedSimpArgs false
end Go.Proofs.YtikmbjfambjmaaaGreatDoor.Gr
namespace Go.Proofs.YtikmbjfambjmaaaGreatDoor.Gr
open Go.RowKit
set_option linter.unusedVariables false
set_option linter.unusedSimpArgs false
theorem Px.mv {α : Type} {enc : α → List Value} {k : Nat} {d : α} {w w' : World} {a : Option Addr} {cap : Nat} {l : List α} {v v' : Value} (h : Px enc k d w a cap l) (hm : Mv w w' v v') (hne : ∀ p : Addr, a = some p → some p.block ≠ v.ownBlock) : Px enc k d w' a cap l :=
  ⟨h.capl, fun h0 => by
    obtain ⟨b, off, e1, e2, e3⟩ := h.at_ h0
    refine ⟨b, off, e1, Nat.lt_of_lt_of_le e2 hm.size, fun i hi j u hu => ?_⟩
    rw [World.cell?_of_block (a := ⟨b, off + i * k + j, none⟩) (hm.blk b e2 (hne _ e1))]
    exact e3 i hi j u hu, h.nil⟩
structure Q2 (b o c p : Nat) (X Y : List Value) (W : World) : Prop where
  r0 : W.rangeAt b o X
  r1 : W.rangeAt c p Y
end Go.Proofs.YtikmbjfambjmaaaGreatDoor.Gr
namespace Go.Proofs.YtikmbjfambjmaaaGreatDoor.Gr
open Go.RowKit
set_option linter.unusedVariables false
set_option linter.unusedSimpArgs false
end Go.Proofs.YtikmbjfambjmaaaGreatDoor.Gr
namespace Go.Proofs.YtikmbjfambjmaaaGreatDoor
open Go.RowKit Go.Extern.Stop Go.Stop Go.Extern
set_option linter.unusedVariables false
set_option linter.unusedSimpArgs false
theorem typeOf75 (v : Value) (w : World) : (ReflectliteType.typeOf #[.iface 79 v]).run Tryz.prog w = .ok (.iface 116 (.agg #[.pointer (some ⟨7, 79, none⟩)])) w := by kernel_rfl
theorem assignable75 (w : World) : (ReflectliteType.relation "AssignableTo" ReflectliteType.assignableTo #[.agg #[.pointer (some ⟨7, 79, none⟩)], .iface 116 (.agg #[.pointer (some ⟨7, 45, none⟩)])]).run Tryz.prog w = .ok (.bool false) w := by kernel_rfl
theorem no134 (v : Value) (xT : TypeId) (w : World) : (Instr.typeAssert (.iface 79 v) xT 121 true).run Tryz.prog w = .ok (.tuple #[.nilIface, .bool false]) w := run_typeAssert_lacksB Tryz.underlying121 (by kernel_rfl) (by kernel_rfl) v xT w
theorem is137 (v : Value) (xT : TypeId) (w : World) : (Instr.typeAssert (.iface 79 v) xT 124 true).run Tryz.prog w = .ok (.tuple #[.iface 79 v, .bool true]) w := run_typeAssert_hasB Tryz.underlying124 (by kernel_rfl) v xT w
theorem methodUnwrap (v : Value) (w : World) : (Go.method 380 79 v "Unwrap").run Tryz.prog w = .ok (172, v) w := by kernel_rfl
set_option maxHeartbeats 4000000 in
set_option maxRecDepth 100000 in
theorem as_wrap (g : Nat) (k : Int) (t : Addr) (old : Value) (w : World) (hg : w.cell? ⟨0, 0, none⟩ = some (.iface 116 (.agg #[.pointer (some ⟨7, 38, none⟩)]))) (ht0 : w.cell? t = some old) (hf0 : w.frozen? t = false) (hc : w.cell? ⟨g, 20, none⟩ = some (.int .i64 k)) :
    Calls Tryz.prog 17 #[.iface 79 (.pointer (some ⟨g, 0, none⟩)), .iface 66 (.pointer (some t))] w fun ev w' => ev = .returned (.bool true) ∧ w' = ((((w.alloc (.cells #[.pointer (some t)] 66)).alloc (.cells #[.pointer (some ⟨7, 66, none⟩), .pointer (some ⟨w.heap.size, 0, none⟩), .int .u64 150] 94)).alloc (.cells #[.pointer (some ⟨7, 66, none⟩), .pointer (some ⟨w.heap.size, 0, none⟩), .int .u64 150] 94)).alloc (.cells #[.int .i64 k] 45)).setCell t (.int .i64 k) := by
  have h33 := @run_callFunc_extern Tryz.prog 27 _ (fun args => ReflectliteValue.unpack (args.getD 0 (.tuple #[]))) Tryz.func27 (by kernel_rfl) (by kernel_rfl) (by kernel_rfl) (by kernel_rfl)
  have h34 := @run_callFunc_extern Tryz.prog 28 _ (ReflectliteValue.methodAny (ReflectliteValue.valueError "reflectlite.Value.Type" 0) (fun t _ _ _ => ReflectliteType.toType t)) Tryz.func28 (by kernel_rfl) (by kernel_rfl) (by kernel_rfl) (by kernel_rfl)
  have h35 := @run_callFunc_extern Tryz.prog 29 _ (ReflectliteValue.method (ReflectliteValue.valueError "reflectlite.Value.IsNil" 0) ReflectliteValue.isNil) Tryz.func29 (by kernel_rfl) (by kernel_rfl) (by kernel_rfl) (by kernel_rfl)
  have h97 := @run_callFunc_extern Tryz.prog 166 _ (ReflectliteType.abiMethod fun t => do pure (.int .u8 (← Rtype.kind t))) Tryz.func166 (by kernel_rfl) (by kernel_rfl) (by kernel_rfl) (by kernel_rfl)
  have h107 := @run_callFunc_extern Tryz.prog 179 _ (ReflectliteType.method ReflectliteType.elem) Tryz.func179 (by kernel_rfl) (by kernel_rfl) (by kernel_rfl) (by kernel_rfl)
  have h108 := @run_callFunc_extern Tryz.prog 180 _ (ReflectliteType.relation "Implements" ReflectliteType.implements_) Tryz.func180 (by kernel_rfl) (by kernel_rfl) (by kernel_rfl) (by kernel_rfl)
  have h62 := @run_callFunc_extern Tryz.prog 41 _ ReflectliteType.typeOf Tryz.func41 (by kernel_rfl) (by kernel_rfl) (by kernel_rfl) (by kernel_rfl)
  have h105 := @run_callFunc_extern Tryz.prog 177 _ (ReflectliteType.relation "AssignableTo" ReflectliteType.assignableTo) Tryz.func177 (by kernel_rfl) (by kernel_rfl) (by kernel_rfl) (by kernel_rfl)
  have h63 := @run_callFunc_extern Tryz.prog 42 _ (ReflectliteValue.method (ReflectliteValue.valueError "reflectlite.Value.Elem" 0) ReflectliteValue.elem) Tryz.func42 (by kernel_rfl) (by kernel_rfl) (by kernel_rfl) (by kernel_rfl)
  have h64 := @run_callFunc_extern Tryz.prog 43 _ ReflectliteValue.set Tryz.func43 (by kernel_rfl) (by kernel_rfl) (by kernel_rfl) (by kernel_rfl)
  have tO := typeOf32
  have tO5 := typeOf75
  have a75 := assignable75
  have n134 := no134
  have i137 := is137
  have mU := methodUnwrap
  have hgl : g < w.heap.size := by
    rcases Nat.lt_or_ge g w.heap.size with h | h
    · exact h
    · simp [World.cell?, Array.getElem?_eq_none h] at hc
  have hc2 : (((w.alloc (.cells #[.pointer (some t)] 66)).alloc (.cells #[.pointer (some ⟨7, 66, none⟩), .pointer (some ⟨w.heap.size, 0, none⟩), .int .u64 150] 94)).alloc (.cells #[.pointer (some ⟨7, 66, none⟩), .pointer (some ⟨w.heap.size, 0, none⟩), .int .u64 150] 94)).cell? ⟨g, 20, none⟩ = some (.int .i64 k) := by
    rw [World.cell?_alloc_lt _ _ ⟨g, 20, none⟩ (by simp; omega), World.cell?_alloc_lt _ _ ⟨g, 20, none⟩ (by simp; omega), World.cell?_alloc_lt _ _ ⟨g, 20, none⟩ hgl]; exact hc
  have mA := methodAssignableTo
  have a32 := assignable32
  have v32 := valueOf32
  have f6 := valueOf45
  have f7 := type45
  have mK := methodKind
  have mE := methodElem
  have mI := methodImplements
  have k45 := kind45
  have k32 := kind32
  have e45 := elem45
  have i32 := implements32
  have n8 := isNil45 ⟨w.heap.size, 0, none⟩ t ((w.alloc (.cells #[.pointer (some t)] 66)).alloc (.cells #[.pointer (some ⟨7, 66, none⟩), .pointer (some ⟨w.heap.size, 0, none⟩), .int .u64 150] 94)) (by simp)
  have hlt : 0 < w.heap.size := by
    rcases Nat.lt_or_ge 0 w.heap.size with h | h
    · exact h
    · simp [World.cell?, Array.getElem?_eq_none h] at hg
  have hg2 : ((w.alloc (.cells #[.pointer (some t)] 66)).alloc (.cells #[.pointer (some ⟨7, 66, none⟩), .pointer (some ⟨w.heap.size, 0, none⟩), .int .u64 150] 94)).cell? ⟨0, 0, none⟩ = some (.iface 116 (.agg #[.pointer (some ⟨7, 38, none⟩)])) := by
    rw [World.cell?_alloc_lt _ _ ⟨0, 0, none⟩ (by simp), World.cell?_alloc_lt _ _ ⟨0, 0, none⟩ hlt]; exact hg
  have htl : t.block < w.heap.size := by
    rcases Nat.lt_or_ge t.block w.heap.size with h | h
    · exact h
    · simp [World.cell?, Array.getElem?_eq_none h] at ht0
  have el := elemV45 ⟨w.heap.size, 0, none⟩ t (((w.alloc (.cells #[.pointer (some t)] 66)).alloc (.cells #[.pointer (some ⟨7, 66, none⟩), .pointer (some ⟨w.heap.size, 0, none⟩), .int .u64 150] 94)).alloc (.cells #[.pointer (some ⟨7, 66, none⟩), .pointer (some ⟨w.heap.size, 0, none⟩), .int .u64 150] 94)) (by rw [World.cell?_alloc_lt _ _ ⟨w.heap.size, 0, none⟩ (by simp; omega)]; simp)
  have st := set32 t ⟨w.heap.size + 1 + 1 + 1, 0, none⟩ k old ((((w.alloc (.cells #[.pointer (some t)] 66)).alloc (.cells #[.pointer (some ⟨7, 66, none⟩), .pointer (some ⟨w.heap.size, 0, none⟩), .int .u64 150] 94)).alloc (.cells #[.pointer (some ⟨7, 66, none⟩), .pointer (some ⟨w.heap.size, 0, none⟩), .int .u64 150] 94)).alloc (.cells #[.int .i64 k] 45))
    (by rw [World.cell?_alloc_at _ _ _ _ (by simp)]; rfl)
    (by rw [World.cell?_alloc_lt _ _ t (by simp; omega), World.cell?_alloc_lt _ _ t (by simp; omega), World.cell?_alloc_lt _ _ t (by simp; omega), World.cell?_alloc_lt _ _ t htl]; exact ht0)
    (by rw [World.frozen?_alloc_old _ _ t (by simp; omega), World.frozen?_alloc_old _ _ t (by simp; omega), World.frozen?_alloc_old _ _ t (by simp; omega), World.frozen?_alloc_old _ _ t (Nat.ne_of_lt htl)]; exact hf0)
  go_enter Tryz.func17, Tryz.ntmps17
  go_wp2
  refine wp_loop_rounds 2 ?_
  rw [rounds_succ]
  go_wp2
  rw [rounds_succ]
  go_wp2
  go_ret
  exact ⟨rfl, rfl⟩
theorem tell_wrap (g : Nat) (k : Int) (w : World) (hg : w.cell? ⟨0, 0, none⟩ = some (.iface 116 (.agg #[.pointer (some ⟨7, 38, none⟩)]))) (hc : w.cell? ⟨g, 20, none⟩ = some (.int .i64 k)) :
    Calls Tryz.prog 10 #[.iface 79 (.pointer (some ⟨g, 0, none⟩))] w fun e w' => e = .returned (.int .i64 k) ∧ Below w.heap.size w w' := by
  have hlt : 0 < w.heap.size := by
    rcases Nat.lt_or_ge 0 w.heap.size with h | h
    · exact h
    · simp [World.cell?, Array.getElem?_eq_none h] at hg
  have hgl : g < w.heap.size := by
    rcases Nat.lt_or_ge g w.heap.size with h | h
    · exact h
    · simp [World.cell?, Array.getElem?_eq_none h] at hc
  have hg2 : (w.alloc (.cells #[.int .i64 0] 45)).cell? ⟨0, 0, none⟩ = some (.iface 116 (.agg #[.pointer (some ⟨7, 38, none⟩)])) := by
    rw [World.cell?_alloc_lt _ _ ⟨0, 0, none⟩ hlt]; exact hg
  have hc2 : (w.alloc (.cells #[.int .i64 0] 45)).cell? ⟨g, 20, none⟩ = some (.int .i64 k) := by
    rw [World.cell?_alloc_lt _ _ ⟨g, 20, none⟩ hgl]; exact hc
  go_enter Tryz.func10, Tryz.ntmps10
  go_wp2_with (go_at_call 17; refine (as_wrap g k ⟨w.heap.size, 0, none⟩ (.int .i64 0) _ hg2 (by simp) (by simp [go_sem]) hc2).mono ?_; rintro e w' ⟨rfl, rfl⟩)
  go_ret
  exact ⟨rfl, (((((Below.refl _ w).alloc (Nat.le_refl _) _).alloc (by simp) _).alloc (by simp; omega) _).alloc (by simp; omega) _).alloc (by simp; omega) _⟩
end Go.Proofs.YtikmbjfambjmaaaGreatDoor
namespace Go.Proofs.YtikmbjfambjmaaaGreatDoor.Gr
open Go.RowKit
set_option linter.unusedVariables false
set_option linter.unusedSimpArgs false
section
variable {α : Type} {enc : α → List Value} {k : Nat} {d : α}
theorem exec_bx_sl {w w0 : World} {o : Oper} {a : Act} (s x : Operand) (t e : TypeId) (hu : Tryz.prog.underlying t = some (.slice e)) {z : Value} {by_ : Nat} (hin : (Tryz.prog.info? e).map (fun i => (i.zero, i.size, i.bytes)) = some (some z, k, by_)) (hz : z.cells.size = k) (hk : 0 < k) (hby : by_ ≤ 100)
    (hone : ∀ x, ∀ v ∈ enc x, v.oneCell' = true)
    (ho : o.op = .call { callee := .builtin .append, args := #[s, x], argTypes := #[t, t] }) (B : Nat) (v : Value) (l : List α) (hs : a.eval s = v) (h : Bx enc k e w0 w B v l)
    (ax : Option Addr) (cx : Nat) (m : List α) (hx : a.eval x = .slice ax m.length cx) (hP : Px enc k d w ax cx m) (hw : ∀ x ∈ m, (enc x).length = k) (hl : l.length + m.length ≤ 100000) :
    ∃ v' w', (execOp a.eval o).run Tryz.prog w = .ok (.value v') w' ∧ Bx enc k e w0 w' B v' (l ++ m) ∧ w.grownBy w' v.ownBlock := by
  obtain ⟨i, hi, hz0, hz1, hz2⟩ := info_parts hin
  have key : ∀ v' w', (Builtin.append_ #[t, t] o.type #[v, .slice ax m.length cx]).run Tryz.prog w = .ok v' w' → (execOp a.eval o).run Tryz.prog w = .ok (.value v') w' := fun v' w' hr => by
    unfold execOp
    simp only [ho, resolve, invoke, builtin, Sem.run_bind, Sem.run_pure, Result.andThen_ok, List.map_toArray, List.map_cons, List.map_nil, hs, hx, hr]
  cases ax with
  | none =>
    have hc : cx = 0 := hP.nil rfl
    have hcl := hP.capl
    obtain rfl : m = [] := List.length_eq_zero_iff.1 (by omega)
    subst hc
    exact ⟨v, w, key _ _ (run_append_owned_none (P := Tryz.prog) w B t o.type e i k hu hi v _ _ h.own), by simpa using h, ⟨rfl, rfl, rfl, Nat.le_refl _, fun _ _ _ => rfl⟩⟩
  | some ad =>
    obtain ⟨bk, of, fr⟩ := ad
    by_cases h0 : m.length = 0
    · obtain rfl : m = [] := List.length_eq_zero_iff.1 h0
      obtain ⟨v', w', hr, h1, h2, _⟩ := run_append_own_at (P := Tryz.prog) w B t o.type e i z k by_ hu hi hz0 hz1 hz2 hz hk v _ _ h.own ⟨bk, of, fr⟩ 0 cx [] (by simp) (fun j u hj => by cases hj) (fun u hu => by cases hu) (by unfold maxLen; omega) (by have h2 := Nat.mul_le_mul hl hby; exact Nat.le_trans h2 (by decide)) h.le
      refine ⟨v', w', key _ _ hr, ⟨h.below.grown h2 h.le (fun k hk => (own_lt h.own k hk).1), ?_, Nat.le_trans h.le h2.size⟩, h2⟩
      simpa using h1
    · obtain ⟨b', off', e1, _⟩ := hP.at_ (by omega)
      cases e1
      obtain ⟨v', w', hr, h1, h2, _⟩ := run_append_own_at (P := Tryz.prog) w B t o.type e i z k by_ hu hi hz0 hz1 hz2 hz hk v _ _ h.own ⟨bk, of, none⟩ m.length cx (m.flatMap enc) (fX_len m hw) (hP.cells hk hw) (fX_one m hone) (by unfold maxLen; omega) (by have h2 := Nat.mul_le_mul hl hby; exact Nat.le_trans h2 (by decide)) h.le
      refine ⟨v', w', key _ _ hr, ⟨h.below.grown h2 h.le (fun k hk => (own_lt h.own k hk).1), ?_, Nat.le_trans h.le h2.size⟩, h2⟩
      rw [List.length_append, List.flatMap_append]
      exact h1
end
theorem exec_bS1 {P : Program} {o : Oper} {a : Act} {w w' : World} (t len : Nat) (x : Operand) (ho : o.op = .buildSlice t len #[(0, x)]) (u1 v : Value) (h1 : a.eval x = u1) (hr : (Instr.buildSlice t len #[(0, u1)]).run P w = .ok v w') : (execOp a.eval o).run P w = .ok (.value v) w' := by
  unfold execOp
  simp [ho, h1, hr, Result.andThen]
theorem exec_bd2 {P : Program} {o : Oper} {a : Act} {w w' : World} (t : Nat) (x y : Operand) (ho : o.op = .build t #[(0, x), (1, y)]) (u1 u2 v : Value) (h1 : a.eval x = u1) (h2 : a.eval y = u2) (hr : (Instr.build t #[(0, u1), (1, u2)]).run P w = .ok v w') : (execOp a.eval o).run P w = .ok (.value v) w' := by
  unfold execOp
  simp [ho, h1, h2, hr, Result.andThen]
theorem takeN {P : Program} {md : Region.Mode} {Q : Exit → Act → World → Prop} {S : World → Prop} {l : List Oper} {i : Nat} {oi : Oper} {fuel : Nat} {listed : Array Bool} {a : Act} {w : World} (hS : S w)
    (h : wpAnyH P md l.toArray Q S fuel (listed.setIfInBounds i true) (a.put oi.dst undef) w) (hi : l[i]? = some oi := by rfl)
    (hs : Region.noSelect l.toArray = true := by kernel_rfl) (hf : Region.free md l.toArray listed i = true := by kernel_rfl) (hr : (Region.ready md l.toArray listed).contains i = true := by kernel_rfl) (hQ : ∀ c a w, Q (.panic c) (a.put oi.dst undef) w → Q (.panic c) a w := by exact fun _ _ _ h => h) (hg : Region.wanted oi (yielded l.toArray a.tmps) = false := by kernel_rfl) :
    wpAnyH P md l.toArray Q S (fuel + 1) listed a w := takeL hi hs hf hr hQ (Or.inr ⟨hg, rfl⟩) hS h
theorem takeG {P : Program} {md : Region.Mode} {Q : Exit → Act → World → Prop} {S : World → Prop} {l : List Oper} {i : Nat} {oi : Oper} {v : Value} {fuel : Nat} {listed : Array Bool} {a : Act} {w : World} (hS : S w)
    (hy : ∀ w', S w' → (execOp a.eval oi).run P w' = .ok (.value v) w')
    (h : wpAnyH P md l.toArray Q S fuel (listed.setIfInBounds i true) (a.put oi.dst v) w) (hi : l[i]? = some oi := by rfl)
    (hs : Region.noSelect l.toArray = true := by kernel_rfl) (hf : Region.free md l.toArray listed i = true := by kernel_rfl) (hr : (Region.ready md l.toArray listed).contains i = true := by kernel_rfl) (hQ : ∀ c a w, Q (.panic c) (a.put oi.dst v) w → Q (.panic c) a w := by exact fun _ _ _ h => h) (hg : Region.wanted oi (yielded l.toArray a.tmps) = true := by kernel_rfl) :
    wpAnyH P md l.toArray Q S (fuel + 1) listed a w := takeL hi hs hf hr hQ (Or.inl ⟨hg, hy⟩) hS h
theorem exec_conv {P : Program} {o : Oper} {a : Act} {w w' : World} {s t : TypeId} {x : Operand} (ho : o.op = .convert s t x) {xv v : Value} (hx : a.eval x = xv) (hr : (convert s t xv).run P w = .ok v w') : (execOp a.eval o).run P w = .ok (.value v) w' := by
  unfold execOp
  simp [ho, hx, hr, Result.andThen]
theorem ba_ext {a b : ByteArray} (h : a.toList = b.toList) : a = b := by
  rw [Lib.toList_data, Lib.toList_data] at h
  obtain ⟨⟨x⟩⟩ := a
  obtain ⟨⟨y⟩⟩ := b
  simp only at h
  rw [h]
def tot (os : List Oj) : Nat := (os.map fun o => o.zs.length).sum
theorem tot_step (os : List Oj) (i : Nat) (hi : i < os.length) : tot (os.take (i + 1)) = tot (os.take i) + (os.getD i dO).zs.length := by
  unfold tot
  rw [take_snocG dO os i hi, List.map_append, List.sum_append]
  simp
theorem tot_mem : ∀ (os : List Oj) (o : Oj), o ∈ os → o.zs.length ≤ tot os
  | [], o, h => by cases h
  | x :: os, o, h => by
    unfold tot
    rw [List.map_cons, List.sum_cons]
    rcases List.mem_cons.1 h with rfl | h
    · exact Nat.le_add_right _ _
    · exact Nat.le_trans (tot_mem os o h) (Nat.le_add_left _ _)
theorem encO_len (os : List Oj) : ∀ o ∈ os, (encO o).length = 2 := fun _ _ => rfl
theorem encO_one (o : Oj) : ∀ v ∈ encO o, v.oneCell' = true := fun v hv => by unfold encO at hv; simp at hv; rcases hv with rfl | rfl <;> rfl
theorem infoB30 : (Tryz.prog.info? 35).map (fun i => (i.zero, i.size, i.bytes)) = some (some (.agg #[.int .i64 0, .slice none 0 0]), 2, 32) := by kernel_rfl
theorem step_app24 {w w0 : World} {ops : Array Oper} {o : Oper} {a : Act} {KK : Act → World → Prop} {Q : Exit → Act → World → Prop} {E : Prop} (hg : o.guard = none) (s x : Operand) (ho : o.op = .call { callee := .builtin .append, args := #[s, x], argTypes := #[29, 29] }) (B : Nat) (v : Value) (l : List Oj) (hs : a.eval s = v) (h : Bx encO 2 35 w0 w B v l)
    (ax : Option Addr) (cx : Nat) (m : List Oj) (hx : a.eval x = .slice ax m.length cx) (hP : Px encO 2 dO w ax cx m) (hl : l.length + m.length ≤ 100000) (hK : ∀ v' w', Bx encO 2 35 w0 w' B v' (l ++ m) → KK (a.put o.dst v') w') :
    if Region.wanted o (yielded ops a.tmps) = true then Oper.wp Tryz.prog o a w KK Q else E := by
  obtain ⟨v', w', hr, hb, _⟩ := exec_bx_sl (enc := encO) (k := 2) (d := dO) s x 29 35 Tryz.underlying29 infoB30 rfl (by decide) (by decide) encO_one ho B v l hs h ax cx m hx hP (encO_len _) hl
  exact step_exec hg v' hr (hK v' w' hb)
end Go.Proofs.YtikmbjfambjmaaaGreatDoor.Gr
