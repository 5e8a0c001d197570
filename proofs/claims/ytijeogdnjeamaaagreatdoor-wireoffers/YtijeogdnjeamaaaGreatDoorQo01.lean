import Derived.RowKit
import Derived.Below
import Derived.WalkKit
import Derived.WalkSpells
import Derived.WalkLawsBesides
import Derived.Deep.AppendLies
import Derived.Deep.LoopGhost
import Derived.Deep.RegionWith
import Derived.Deep.QuietTactic
import Derived.BigQuiet
import Derived.Laws.BitsAllLaws
import Derived.Laws.CopyOwn
import Derived.Laws.IdiomCopy
import Derived.Deep.RegionHeld3
import Derived.Deep.RegionLaw
import Derived.Deep.DrawnRows
import Derived.Deep.MidRow
import Derived.Maps.AppendAt
import Derived.Deep.RegionHeld
import Derived.OrdersHeld
import Derived.Maps.Range
import Derived.ChangeKeysEq
import Derived.Laws.StructEq
import Derived.Shelf.Small.Utf8
import Derived.Shelf.Small.Strs
import Derived.Shelf.Strings.Runes
import Derived.Shelf.Strings.IndexAnyAll
import Derived.Test.YtijeogdnjeamaaaGreatDoorProg
import Derived.Laws.RangeAny
import Derived.Laws.Runes
import Derived.WalkMore
import Derived.Lib.SlBytesRow
import Derived.Lib.OthersKept
import Derived.Lib.TrimUEq
import Derived.Lib.SpaceUEq
import Derived.Lib.QuoteLoop
import Derived.RangeFuncNested
import Derived.RangeFuncBound
import Derived.RangeFuncCalls
import Derived.RangeFuncLeaves
import Derived.RangeFuncBox
import Derived.Shelf.Abstract
import Derived.Shelf.RegionOpen
import Derived.OwnWalkIn
import Derived.TacticsInMore
import Derived.LoopNIn
import Derived.LoopIn
import Derived.Sort.LoopGhostIn
import Derived.Great.BuildSlice
import Derived.Maps.OwnSet
import Derived.Maps.OwnOps
import Derived.DeepKeys4
namespace Go.Proofs.YtijeogdnjeamaaaGreatDoor
open Go.RowKit
set_option linter.unusedVariables false
theorem hid {p : Prop} (h : p) : Hid p := h
theorem info_parts {o : Option TypeInfo} {z : Value} {a b : Nat} (h : o.map (fun i => (i.zero, i.size, i.bytes)) = some (some z, a, b)) : ∃ i, o = some i ∧ i.zero = some z ∧ i.size = a ∧ i.bytes = b := by
  cases o with
  | none => simp at h
  | some i => simp at h; exact ⟨i, rfl, h.1, h.2.1, h.2.2⟩
theorem Tryz.info5 : (Tryz.prog.info? 5).map (fun i => (i.zero, i.size, i.bytes)) = some (some (.int .u8 0), 1, 1) := by kernel_rfl
theorem Tryz.size5 : (Tryz.prog.info? 5).map (·.size) = some 1 := by kernel_rfl
def row (k : IntKind) (zs : List Int) : List Value := zs.map (Value.int k)
theorem range_row {w : World} {g : Nat} {cs : List Value} {t : TypeId} {fr : Nat × Nat} (h : w.heap[g]? = some (.cells cs.toArray t fr)) : w.rangeAt g 0 cs := fun j v hv => by
  rw [Nat.zero_add, cell_of_row w g j _ t fr h]; simpa using hv
theorem below_setCells {B g : Nat} (hB : B ≤ g) : ∀ (vs : List Value) (o : Nat) (w0 w : World), Below B w0 w → Below B w0 (w.setCells g o vs)
  | [], _, _, _, h => h
  | v :: r, o, w0, _, h => below_setCells hB r (o + 1) w0 _ (h.setCell (p := ⟨g, o, none⟩) hB v)
theorem size_setCells (g : Nat) : ∀ (vs : List Value) (o : Nat) (w : World), (w.setCells g o vs).heap.size = w.heap.size
  | [], _, _ => rfl
  | _ :: r, o, _ => (size_setCells g r (o + 1) _).trans (by simp [World.setCell])
theorem own_lt {w : World} {B : Nat} {e : TypeId} {s : Nat} {v : Value} {n : Nat} {xs : List Value} (h : w.ownsRow B e s v n xs) (k : Nat) (hk : v.ownBlock = some k) : B ≤ k ∧ k < w.heap.size := h.lt k hk
def IsB (l : List Int) : Prop := ∀ x ∈ l, 0 ≤ x ∧ x < 256
theorem IsB.at {l : List Int} (h : IsB l) (i : Nat) : 0 ≤ l.getD i 0 ∧ l.getD i 0 < 256 := by
  by_cases hi : i < l.length
  · exact h _ (by rw [List.getD_eq_getElem?_getD, List.getElem?_eq_getElem hi]; exact List.getElem_mem _)
  · rw [List.getD_eq_getElem?_getD, List.getElem?_eq_none (by omega)]; simp
end Go.Proofs.YtijeogdnjeamaaaGreatDoor
namespace Go.Proofs.YtijeogdnjeamaaaGreatDoor
open Go.RowKit
set_option linter.unusedVariables false
set_option linter.unusedSimpArgs false
theorem step_callv {P : Program} {ops : Array Oper} {o : Oper} {a : Act} {w : World} {K : Act → World → Prop} {Q : Exit → Act → World → Prop} {E : Prop} (hg : o.guard = none) (f : FuncId) (args : List Operand) (ts : Array TypeId) (vs : List Value) (R : Ending → World → Prop)
    (ho : o.op = .call { callee := .value (.func f), args := args.toArray, argTypes := ts }) (hx : args.map a.eval = vs) (hent : ∀ w : World, (callFunc f vs.toArray).run P w = .ok (.enter f vs.toArray) w)
    (hc : Calls P f vs.toArray w R) (h : ∀ e w', R e w' → ∃ r, e = .returned r ∧ K (a.put o.dst r) w') :
    if Region.wanted o (yielded ops a.tmps) = true then Oper.wp P o a w K Q else E := by
  have hw : Region.wanted o (yielded ops a.tmps) = true := by simp [Region.wanted, hg]
  rw [if_pos hw]
  unfold Oper.wp
  simp only [execOp, ho, resolve, invoke, go_sem, List.map_toArray, hx, hent]
  simp [go_sem, hent, Oper.upon_enter]
  refine hc.mono ?_
  intro e w' hr
  obtain ⟨r, rfl, hk⟩ := h e w' hr
  exact hk
theorem step_exec {P : Program} {ops : Array Oper} {o : Oper} {a : Act} {w w' : World} {K : Act → World → Prop} {Q : Exit → Act → World → Prop} {E : Prop} (hg : o.guard = none) (v : Value) (hr : (execOp a.eval o).run P w = .ok (.value v) w') (h : K (a.put o.dst v) w') :
    if Region.wanted o (yielded ops a.tmps) = true then Oper.wp P o a w K Q else E := by
  have hw : Region.wanted o (yielded ops a.tmps) = true := by simp [Region.wanted, hg]
  rw [if_pos hw]
  unfold Oper.wp
  rw [hr]
  exact h
theorem takeL {P : Program} {md : Region.Mode} {Q : Exit → Act → World → Prop} {S : World → Prop} {l : List Oper} {i : Nat} {oi : Oper} {v : Value} {fuel : Nat} {listed : Array Bool} {a : Act} {w : World} (hi : l[i]? = some oi)
    (hs : Region.noSelect l.toArray = true) (hf : Region.free md l.toArray listed i = true) (hr : (Region.ready md l.toArray listed).contains i = true)
    (hQ : ∀ c a w, Q (.panic c) (a.put oi.dst v) w → Q (.panic c) a w) (hy : YieldsIf P l.toArray S oi v a) (hS : S w)
    (h : wpAnyH P md l.toArray Q S fuel (listed.setIfInBounds i true) (a.put oi.dst v) w) : wpAnyH P md l.toArray Q S (fuel + 1) listed a w :=
  wpAnyH_take (by rw [List.getElem?_toArray]; exact hi) hs hf hr hQ hy hS h
theorem consL {P : Program} {md : Region.Mode} {Q : Exit → Act → World → Prop} {S : World → Prop} {l : List Oper} {fuel : Nat} {listed : Array Bool} {a : Act} {w : World} {i : Nat} {o : Oper} {rs : List Nat} (ho : l[i]? = some o)
    (h : ∀ K' : Act → World → Prop, Shut (∀ a w, S w → (S w → wpAnyH P md l.toArray Q S fuel (listed.setIfInBounds i true) a w) → K' a w) → if Region.wanted o (yielded l.toArray a.tmps) = true then Oper.wp P o a w K' Q else K' (a.put o.dst undef) w)
    (hs : AllReadyH P md l.toArray Q S fuel listed a w rs) : AllReadyH P md l.toArray Q S fuel listed a w (i :: rs) := AllReadyH.cons (by rw [List.getElem?_toArray]; exact ho) h hs
end Go.Proofs.YtijeogdnjeamaaaGreatDoor
namespace Go.Proofs.YtijeogdnjeamaaaGreatDoor
open Go.RowKit
set_option linter.unusedVariables false
set_option linter.unusedSimpArgs false
def At (w : World) (b off : Nat) (zs : List Int) : Prop := ∀ i, i < zs.length → w.cell? ⟨b, off + i, none⟩ = some (.int .u8 (zs.getD i 0))
end Go.Proofs.YtijeogdnjeamaaaGreatDoor
namespace Go.Proofs.YtijeogdnjeamaaaGreatDoor
open Go.RowKit
set_option linter.unusedVariables false
def val (zs : List Int) (j : Nat) : Nat → Int
  | 0 => 0
  | m + 1 => val zs j m * 256 + zs.getD (4 * j + m) 0
end Go.Proofs.YtijeogdnjeamaaaGreatDoor
namespace Go.Proofs.YtijeogdnjeamaaaGreatDoor
open Go.RowKit
set_option linter.unusedVariables false
theorem wrap_i64 (n : Nat) (h : n < 9223372036854775808) : IntKind.i64.wrap (n : Int) = n := by
  rw [IntKind.wrap_i64]; omega
end Go.Proofs.YtijeogdnjeamaaaGreatDoor
namespace Go.Proofs.YtijeogdnjeamaaaGreatDoor
open Go.RowKit
set_option linter.unusedVariables false
theorem addr_add (b off j : Nat) : (⟨b, off, none⟩ : Addr).add j = ⟨b, off + j, none⟩ := by unfold Addr.add; split <;> simp_all
end Go.Proofs.YtijeogdnjeamaaaGreatDoor
namespace Go.Proofs.YtijeogdnjeamaaaGreatDoor
open Go.RowKit
set_option linter.unusedVariables false
theorem IsB.take {l : List Int} (h : IsB l) (n : Nat) : IsB (l.take n) := fun x hx => h x (List.mem_of_mem_take hx)
theorem IsB.drop {l : List Int} (h : IsB l) (n : Nat) : IsB (l.drop n) := fun x hx => h x (List.mem_of_mem_drop hx)
end Go.Proofs.YtijeogdnjeamaaaGreatDoor
namespace Go.Proofs.YtijeogdnjeamaaaGreatDoor
open Go.RowKit
set_option linter.unusedVariables false
set_option linter.unusedSimpArgs false
theorem grown_of_below {w w' : World} (h : Below w.heap.size w w') (row : Option Nat) : w.grownBy w' row := ⟨h.os, h.tape, h.output, h.size, fun k hk _ => h.block k hk⟩
theorem grown_setCells (g : Nat) : ∀ (vs : List Value) (o : Nat) (w0 w : World), w0.grownBy w (some g) → w0.grownBy (w.setCells g o vs) (some g)
  | [], _, _, _, h => h
  | v :: r, o, w0, w, h => grown_setCells g r (o + 1) w0 _ ⟨h.os, h.tape, h.output, by simpa [World.setCell] using h.size, fun k hk hne => (Below.heap_setCell w ⟨g, o, none⟩ v k (fun e => hne (by rw [e]))).trans (h.block k hk hne)⟩
theorem grown_setCell {w0 w : World} {g i : Nat} (v : Value) (h : w0.grownBy w (some g)) : w0.grownBy (w.setCell ⟨g, i, none⟩ v) (some g) := grown_setCells g [v] i w0 w h
end Go.Proofs.YtijeogdnjeamaaaGreatDoor
namespace Go.Proofs.YtijeogdnjeamaaaGreatDoor
open Go.RowKit
set_option linter.unusedVariables false
end Go.Proofs.YtijeogdnjeamaaaGreatDoor
namespace Go.Proofs.YtijeogdnjeamaaaGreatDoor
open Go.RowKit
set_option maxHeartbeats 400000 in
theorem same_true (b off cap b' off' cap' : Nat) (zs : List Int) (w : World) (hl : zs.length ≤ 400000) (hc : At w b off zs) (hc' : At w b' off' zs) :
    Calls Tryz.prog 10 #[.slice (some ⟨b, off, none⟩) zs.length cap, .slice (some ⟨b', off', none⟩) zs.length cap'] w fun e w' => e = .returned (.bool true) ∧ ∃ n, w' = w.drewN n := by
  go_enter Tryz.func10, Tryz.ntmps10
  go_wp2
  go_loopw [5] (fun i wr => ∃ k n : Nat, k ≤ zs.length ∧ i = .int .i64 k ∧ wr = w.drewN n) (fun i _ => zs.length - (intOf i).toNat)
  case atStart => exact ⟨0, 0, Nat.zero_le _, rfl, rfl⟩
  case round =>
    obtain ⟨k, n, hk, rfl, rfl⟩ := hrel
    by_cases hlt : k < zs.length
    · have hcell := hc k hlt
      have hcell' := hc' k hlt
      go_wp2
      go_quiet (fail)
      go_wp2
      go_roundw
      case rel => exact ⟨k + 1, _, by omega, by go_num, rfl⟩
      case measure => simp [intOf]; omega
    · go_wp2
      go_ret
      exact ⟨rfl, n, rfl⟩
set_option maxHeartbeats 400000 in
theorem same_none (a a' : Option Addr) (cap cap' : Nat) (w : World) :
    Calls Tryz.prog 10 #[.slice a 0 cap, .slice a' 0 cap'] w fun e w' => e = .returned (.bool true) ∧ ∃ n, w' = w.drewN n := by
  go_enter Tryz.func10, Tryz.ntmps10
  go_wp2
  go_loop [5] (fun i => i = .int .i64 0) (fun _ => 0)
  case atStart => rfl
  case round =>
    obtain rfl := hrel
    go_wp2
    go_ret
    exact ⟨rfl, 0, rfl⟩
end Go.Proofs.YtijeogdnjeamaaaGreatDoor
namespace Go.Proofs.YtijeogdnjeamaaaGreatDoor
open Go.RowKit
structure Room (w : World) (g : Nat) (zs : List Int) : Prop where
  lt : g < w.heap.size
  cell : ∀ i, i < zs.length → w.cell? ⟨g, i, none⟩ = some (.int .u8 (zs.getD i 0))
  c71 : w.cell? ⟨g, zs.length, none⟩ = some (.int .u8 71)
  c72 : w.cell? ⟨g, zs.length + 1, none⟩ = some (.int .u8 72)
  fz : ∀ i, w.frozen? ⟨g, i, none⟩ = false
theorem copy_in (w1 : World) (g n2 : Nat) (a : Option Addr) (cap : Nat) (zs : List Int) (hn : zs.length ≤ n2) (hcell : ∀ j, j < n2 → w1.cell? ⟨g, j, none⟩ = some (.int .u8 0)) (hfz : ∀ j, w1.frozen? ⟨g, j, none⟩ = false)
    (hc : 0 < zs.length → ∃ b off, a = some ⟨b, off, none⟩ ∧ At w1 b off zs) :
    ∃ w2, Sem.run Tryz.prog (Builtin.copy_ #[25, 25] 3 #[.slice (some ⟨g, 0, none⟩) n2 n2, .slice a zs.length cap]) w1 = .ok (.int .i64 zs.length) w2 ∧ Below g w1 w2 ∧ w2.heap.size = w1.heap.size ∧
      (∀ j, j < zs.length → w2.cell? ⟨g, j, none⟩ = some (.int .u8 (zs.getD j 0))) ∧ (∀ j, zs.length ≤ j → j < n2 → w2.cell? ⟨g, j, none⟩ = some (.int .u8 0)) ∧ ∀ j, w2.frozen? ⟨g, j, none⟩ = false := by
  by_cases h0 : zs.length = 0
  · refine ⟨w1, ?_, Below.refl _ _, rfl, fun j hj => by omega, fun j _ hj => hcell j hj, hfz⟩
    rw [run_copy_none w1 25 25 3 5 _ a n2 n2 zs.length cap Tryz.underlying25 Tryz.size5 (by rw [h0]; exact Nat.zero_min _), h0]; rfl
  · obtain ⟨b, off, rfl, hat⟩ := hc (by omega)
    have hlen : (zs.map (Value.int .u8)).length = zs.length := by simp
    have hr := run_copy_cells (P := Tryz.prog) w1 25 25 3 5 g 0 n2 n2 ⟨b, off, none⟩ zs.length cap (zs.map (Value.int .u8)) Tryz.underlying25 Tryz.size5
      (by rw [hlen]; exact (Nat.min_eq_left hn).symm)
      (fun j v hj => by
        rw [List.getElem?_map] at hj
        cases hq : zs[j]? with
        | none => simp [hq] at hj
        | some q =>
          simp [hq] at hj
          subst hj
          have hlt : j < zs.length := by rcases Nat.lt_or_ge j zs.length with h | h; exact h; rw [List.getElem?_eq_none h] at hq; cases hq
          have := hat j hlt
          rw [addr_add]
          simpa [hq] using this)
      (fun j hj => by rw [hlen] at hj; rw [Nat.zero_add, hcell j (by omega)]; rfl) (fun j _ => hfz _) (ints_oneCell _ _)
    have hin := World.cell?_setCells_in g (zs.map (Value.int .u8)) 0 w1 (fun j hj => by rw [hlen] at hj; rw [Nat.zero_add, hcell j (by omega)]; rfl)
    refine ⟨_, by rw [hr, hlen]; rfl, below_setCells (Nat.le_refl _) _ _ _ _ (Below.refl _ _), size_setCells _ _ _ _, fun j hj => ?_, fun j h1 h2 => ?_, fun j => ?_⟩
    · have := hin j (by omega)
      rw [Nat.zero_add] at this
      rw [this]
      simp [hj]
    · rw [World.cell?_setCells_out g _ 0 w1 _ (fun _ _ => Or.inr (by rw [hlen]; simpa using h1))]
      exact hcell j h2
    · rw [World.frozen?_setCells]; exact hfz j
theorem room_of {w2 : World} {g : Nat} {zs : List Int} (hs : g < w2.heap.size) (hin : ∀ j, j < zs.length → w2.cell? ⟨g, j, none⟩ = some (.int .u8 (zs.getD j 0))) (k1 : w2.cell? ⟨g, zs.length, none⟩ = some (.int .u8 0))
    (k2 : w2.cell? ⟨g, zs.length + 1, none⟩ = some (.int .u8 0)) (hfz : ∀ j, w2.frozen? ⟨g, j, none⟩ = false) :
    Room ((w2.setCell ⟨g, zs.length, none⟩ (.int .u8 71)).setCell ⟨g, zs.length + 1, none⟩ (.int .u8 72)) g zs where
  lt := by simpa [World.setCell] using hs
  cell i hi := by
    rw [World.cell?_setCell_other _ _ _ _ (by intro h; simp only [Addr.mk.injEq] at h; omega), World.cell?_setCell_other _ _ _ _ (by intro h; simp only [Addr.mk.injEq] at h; omega)]; exact hin i hi
  c71 := by rw [World.cell?_setCell_other _ _ _ _ (by simp)]; exact World.cell?_setCell_same _ _ _ k1
  c72 := World.cell?_setCell_same (u := .int .u8 0) _ _ _ (by rw [World.cell?_setCell_other _ _ _ _ (by simp)]; exact k2)
  fz i := by rw [World.frozen?_setCell, World.frozen?_setCell]; exact hfz i
set_option maxRecDepth 10000 in
set_option maxHeartbeats 400000 in
theorem roomy_any (a : Option Addr) (cap : Nat) (zs : List Int) (w : World) (hl : zs.length ≤ 300000) (hc : 0 < zs.length → ∃ b off, a = some ⟨b, off, none⟩ ∧ b < w.heap.size ∧ At w b off zs) :
    Calls Tryz.prog 17 #[.slice a zs.length cap] w fun e w' => e = .returned (.slice (some ⟨w.heap.size, 0, none⟩) zs.length (zs.length + 2)) ∧ Below w.heap.size w w' ∧ Room w' w.heap.size zs := by
  obtain ⟨i5, hi, hz0, hz1, hz2⟩ := info_parts Tryz.info5
  go_enter Tryz.func17, Tryz.ntmps17
  go_wp2_with (at_make; refine wpList_make_full _ rfl _ _ 25 rfl w.heap.size 5 i5 (.int .u8 0) 1 Tryz.underlying25 hi hz0 hz1 _ _ _ _ (zs.length + 2) rfl rfl ?c1 ?c2 ?c3 ?c4 ?c5 ?_)
  case c1 => omega
  case c2 => omega
  case c3 => rw [hz2]; omega
  case c4 => unfold maxLen; omega
  case c5 => exact Nat.le_refl _
  · intro w1 hown hgrow
    have hb1 : Below w.heap.size w w1 := (Below.refl _ _).grown hgrow (Nat.le_refl _) (fun k h => by cases h)
    have hs1 : w.heap.size < w1.heap.size := (hown.lt _ rfl).2
    obtain ⟨w2, hrun, hb2, hs2, hin, hout, hfz⟩ := copy_in w1 w.heap.size (zs.length + 2) a cap zs (by omega)
      (fun j hj => by
        rw [hown.cellAt j (by omega), toList_madeCells_one, List.getElem?_replicate, if_pos (by omega)]) hown.frozenAt
      (fun h => by
        obtain ⟨b, off, ha, hb, hat⟩ := hc h
        exact ⟨b, off, ha, fun j hj => (hb1.cell (p := ⟨b, off + j, none⟩) hb).trans (hat j hj)⟩)
    have k1 := hout zs.length (by omega) (by omega)
    have k2 := hout (zs.length + 1) (by omega) (by omega)
    have f1 := hfz zs.length
    have f2 := hfz (zs.length + 1)
    have HB : Hid (Below w.heap.size w w2) := hb1.trans hb2
    clear hown hgrow hb1 hc hout hb2
    go_wp2
    go_ret
    exact ⟨rfl, (HB.out.setCell (Nat.le_refl _) _).setCell (Nat.le_refl _) _, room_of (by omega) hin k1 k2 hfz⟩
end Go.Proofs.YtijeogdnjeamaaaGreatDoor
namespace Go.Proofs.YtijeogdnjeamaaaGreatDoor
open Go.RowKit
theorem same_any (a a' : Option Addr) (cap cap' : Nat) (zs : List Int) (w : World) (hl : zs.length ≤ 400000) (hc : 0 < zs.length → ∃ b off, a = some ⟨b, off, none⟩ ∧ At w b off zs) (hc' : 0 < zs.length → ∃ b off, a' = some ⟨b, off, none⟩ ∧ At w b off zs) :
    Calls Tryz.prog 10 #[.slice a zs.length cap, .slice a' zs.length cap'] w fun e w' => e = .returned (.bool true) ∧ ∃ n, w' = w.drewN n := by
  by_cases h0 : zs.length = 0
  · rw [h0]; exact same_none a a' cap cap' w
  · obtain ⟨b, off, rfl, h⟩ := hc (by omega)
    obtain ⟨b', off', rfl, h'⟩ := hc' (by omega)
    exact same_true b off cap b' off' cap' zs w hl h h'
def Own (w : World) (g n : Nat) : Prop := ∀ i, i < n → ∃ v : Int, 0 ≤ v ∧ v ≤ 255 ∧ w.cell? ⟨g, i, none⟩ = some (.int .u8 v)
theorem Own.set {w : World} {g n : Nat} (h : Own w g n) (k : Nat) (v : Int) (h1 : 0 ≤ v) (h2 : v ≤ 255) : Own (w.setCell ⟨g, k, none⟩ (.int .u8 v)) g n := by
  intro i hi
  by_cases hk : i = k
  · subst hk
    obtain ⟨u, _, _, hu⟩ := h i hi
    exact ⟨v, h1, h2, World.cell?_setCell_same _ _ _ hu⟩
  · obtain ⟨u, a, b, hu⟩ := h i hi
    exact ⟨u, a, b, by rw [World.cell?_setCell_other _ _ _ _ (by intro h; simp only [Addr.mk.injEq] at h; omega)]; exact hu⟩
theorem below_drewH {B : Nat} {w0 w : World} (h : Below B w0 w) (n : Nat) : Below B w0 (w.drewN n) := h.trans ⟨rfl, rfl, rfl, Nat.le_refl _, fun _ _ => rfl⟩
theorem IsB.get {zs : List Int} (h : IsB zs) (k : Nat) : 0 ≤ zs[k]?.getD 0 ∧ zs[k]?.getD 0 ≤ 255 := by
  have := h.at k
  rw [List.getD_eq_getElem?_getD] at this
  omega
theorem Room.own {w : World} {g : Nat} {zs : List Int} (h : Room w g zs) (hz : IsB zs) : Own w g (zs.length + 2) := by
  intro i hi
  by_cases h1 : i < zs.length
  · exact ⟨_, (hz.get i).1, (hz.get i).2, by simpa using h.cell i h1⟩
  · by_cases h2 : i = zs.length
    · subst h2; exact ⟨71, by omega, by omega, h.c71⟩
    · obtain rfl : i = zs.length + 1 := by omega
      exact ⟨72, by omega, by omega, h.c72⟩
theorem xor85 (v : Int) (h1 : 0 ≤ v) (h2 : v ≤ 255) : ∃ v' : Int, bits .xor .u8 v 85 = v' ∧ 0 ≤ v' ∧ v' ≤ 255 := by
  refine ⟨_, rfl, ?_⟩
  rw [u8_xor _ _ h1 (by omega) (by omega) (by omega)]
  have := Nat.xor_lt_two_pow (n := 8) (x := v.toNat) (y := (85 : Int).toNat) (by omega) (by decide)
  omega
end Go.Proofs.YtijeogdnjeamaaaGreatDoor
namespace Go.Proofs.YtijeogdnjeamaaaGreatDoor
open Go.RowKit
set_option linter.unusedVariables false
theorem grown_drewN (w : World) (n : Nat) (r : Option Nat) : w.grownBy (w.drewN n) r := ⟨rfl, rfl, rfl, Nat.le_refl _, fun _ _ _ => rfl⟩
set_option maxHeartbeats 400000 in
theorem still_keep (a : Option Addr) (cap g : Nat) (zs : List Int) (w : World) (hl : zs.length ≤ 300000) (hz : IsB zs) (hr : Room w g zs) (hc : 0 < zs.length → ∃ b off, a = some ⟨b, off, none⟩ ∧ b < g ∧ At w b off zs) :
    Calls Tryz.prog 19 #[.slice (some ⟨g, 0, none⟩) zs.length (zs.length + 2), .slice a zs.length cap] w fun e w' => e = .returned (.bool true) ∧ w.grownBy w' (some g) := by
  have c71 := hr.c71
  have c72 := hr.c72
  go_enter Tryz.func19, Tryz.ntmps19
  go_wp2_with (go_at_call 10; refine (same_any _ _ _ _ zs _ (by omega) (fun _ => ⟨g, 0, rfl, fun i hi => by rw [Nat.zero_add]; exact hr.cell i hi⟩) (fun h => by obtain ⟨b, off, h1, h2, h3⟩ := hc h; exact ⟨b, off, h1, h3⟩)).mono ?_; rintro e w1 ⟨rfl, nq, rfl⟩)
  go_loopw [8] (fun i wr => ∃ k : Nat, k ≤ zs.length + 2 ∧ i = .int .i64 k ∧ Own wr g (zs.length + 2) ∧ (∀ i, wr.frozen? ⟨g, i, none⟩ = false) ∧ w.grownBy wr (some g)) (fun i _ => zs.length + 2 - (intOf i).toNat)
  case atStart => exact ⟨0, Nat.zero_le _, rfl, hr.own hz, hr.fz, grown_drewN _ _ _⟩
  case round =>
    obtain ⟨k, hk, rfl, hown, hfz, hbel⟩ := hrel
    clear c71 c72
    by_cases hlt : k < zs.length + 2
    · obtain ⟨v, hv1, hv2, hcell⟩ := hown k hlt
      obtain ⟨v', hx, hv3, hv4⟩ := xor85 v hv1 hv2
      have hf := hfz k
      go_wp2
      go_roundw
      case rel => exact ⟨k + 1, by omega, by go_num, hown.set k v' hv3 hv4, fun i => by rw [World.frozen?_setCell]; exact hfz i, grown_setCell _ hbel⟩
      case measure => simp [intOf]; omega
    · go_wp2
      go_ret
      exact ⟨rfl, hbel⟩
end Go.Proofs.YtijeogdnjeamaaaGreatDoor
namespace Go.Proofs.YtijeogdnjeamaaaGreatDoor
open Go.RowKit
set_option linter.unusedVariables false
set_option linter.unusedSimpArgs false
theorem txt_len (l : List UInt8) : (⟨l.toArray⟩ : ByteArray).size = l.length := by simp [ByteArray.size]
theorem idx_txt (s : List UInt8) (j : Nat) (w : World) (x : UInt8) (h : s[j]? = some x) : (Instr.index 9 (.string ⟨s.toArray⟩) (.int .i64 j)).run Tryz.prog w = .ok (.int .u8 (x.toNat : Int)) w := by
  obtain ⟨hj, hx⟩ := List.getElem?_eq_some_iff.1 h
  rw [run_index_string (P := Tryz.prog) w 9 ⟨s.toArray⟩ .i64 j Tryz.underlying9, dif_pos ⟨by omega, by rw [txt_len]; omega⟩]
  simp only [Int.toNat_natCast]
  rw [← hx]
  rfl
theorem ext_txt (s : List UInt8) (i j : Nat) : (⟨s.toArray⟩ : ByteArray).extract i j = ⟨((s.drop i).take (j - i)).toArray⟩ := by
  apply ByteArray.ext
  simp [ByteArray.data_extract, List.extract]
theorem slc_to (s : List UInt8) (j : Nat) (h : j ≤ s.length) (w : World) : (Instr.slice 9 (.string ⟨s.toArray⟩) none (some (.int .i64 j)) none).run Tryz.prog w = .ok (.string ⟨(s.take j).toArray⟩) w := by
  rw [run_slice_string_to_if w 9 _ .i64 j Tryz.underlying9, if_pos ⟨by omega, by rw [txt_len]; omega⟩, Int.toNat_natCast, ext_txt, List.drop_zero, Nat.sub_zero]
theorem slc_mid (s : List UInt8) (i j : Nat) (h1 : i ≤ j) (h2 : j ≤ s.length) (w : World) : (Instr.slice 9 (.string ⟨s.toArray⟩) (some (.int .i64 i)) (some (.int .i64 j)) none).run Tryz.prog w = .ok (.string ⟨((s.drop i).take (j - i)).toArray⟩) w := by
  rw [run_slice_string w 9 _ .i64 .i64 i j Tryz.underlying9 (by omega) (by omega) (by rw [txt_len]; omega), Int.toNat_natCast, Int.toNat_natCast, ext_txt]
theorem slc_from (s : List UInt8) (i : Nat) (h : i ≤ s.length) (w : World) : (Instr.slice 9 (.string ⟨s.toArray⟩) (some (.int .i64 i)) none none).run Tryz.prog w = .ok (.string ⟨(s.drop i).toArray⟩) w := by
  rw [run_slice_string_from_if w 9 _ .i64 i Tryz.underlying9, if_pos ⟨by omega, by rw [txt_len]; omega⟩, Int.toNat_natCast, ext_txt, txt_len, List.take_of_length_le (by rw [List.length_drop]; omega)]
def cur (s : List UInt8) (f i : Nat) : List UInt8 := (s.drop f).take (i - f)
end Go.Proofs.YtijeogdnjeamaaaGreatDoor
namespace Go.Proofs.YtijeogdnjeamaaaGreatDoor
open Go.RowKit
set_option linter.unusedVariables false
set_option linter.unusedSimpArgs false
theorem lt_of_some {w : World} {g : Nat} {o : Obj} (h : w.heap[g]? = some o) : g < w.heap.size := (Array.getElem?_eq_some_iff.1 h).1
theorem getD_mem {α : Type} (l : List α) (i : Nat) (d : α) (h : i < l.length) : l.getD i d ∈ l := by
  rw [List.getD_eq_getElem?_getD, List.getElem?_eq_getElem h]
  exact List.getElem_mem _
theorem take_snocG {α : Type} (d : α) (s : List α) (i : Nat) (h : i < s.length) : s.take (i + 1) = s.take i ++ [s.getD i d] := by
  rw [List.take_add_one, List.getD_eq_getElem?_getD, List.getElem?_eq_getElem h]; rfl
section
variable {α : Type} (enc : α → List Value) (k : Nat) (d : α)
structure Px (w : World) (a : Option Addr) (cap : Nat) (l : List α) : Prop where
  capl : l.length ≤ cap
  at_ : 0 < l.length → ∃ b off, a = some ⟨b, off, none⟩ ∧ b < w.heap.size ∧ ∀ i, i < l.length → w.rangeAt b (off + i * k) (enc (l.getD i d))
  nil : a = none → cap = 0
structure Bx (e : TypeId) (w0 w : World) (B : Nat) (v : Value) (l : List α) : Prop where
  below : Below B w0 w
  own : w.ownsRow B e k v l.length (l.flatMap enc)
  le : B ≤ w.heap.size
end
section
variable {α : Type} {enc : α → List Value} {k : Nat} {d : α}
theorem Px.below {w w' : World} {a : Option Addr} {cap : Nat} {l : List α} (h : Px enc k d w a cap l) (hb : Below w.heap.size w w') : Px enc k d w' a cap l :=
  ⟨h.capl, fun h0 => by
    obtain ⟨b, off, e1, e2, e3⟩ := h.at_ h0
    exact ⟨b, off, e1, Nat.lt_of_lt_of_le e2 hb.size, fun i hi j v hv => (hb.cell (p := ⟨b, off + i * k + j, none⟩) e2).trans (e3 i hi j v hv)⟩, h.nil⟩
theorem Px.grown {w w' : World} {a : Option Addr} {cap K : Nat} {l : List α} (h : Px enc k d w a cap l) (hK : ∀ p : Addr, a = some p → p.block ≠ K) (hg : w.grownBy w' (some K)) : Px enc k d w' a cap l :=
  ⟨h.capl, fun h0 => by
    obtain ⟨b, off, e1, e2, e3⟩ := h.at_ h0
    refine ⟨b, off, e1, Nat.lt_of_lt_of_le e2 hg.size, fun i hi j v hv => ?_⟩
    rw [World.cell?_of_block (a := ⟨b, off + i * k + j, none⟩) (hg.block b e2 (fun e => hK _ e1 (by cases e; rfl)))]
    exact e3 i hi j v hv, h.nil⟩
theorem Px.take {w : World} {a : Option Addr} {cap : Nat} {l : List α} (h : Px enc k d w a cap l) (j : Nat) : Px enc k d w a cap (l.take j) :=
  ⟨by rw [List.length_take]; have := h.capl; omega, fun h0 => by
    rw [List.length_take] at h0
    obtain ⟨b, off, e1, e2, e3⟩ := h.at_ (by omega)
    refine ⟨b, off, e1, e2, fun i hi => ?_⟩
    rw [List.length_take] at hi
    have := e3 i (by omega)
    rw [show (l.take j).getD i d = l.getD i d by rw [List.getD_eq_getElem?_getD, List.getD_eq_getElem?_getD, List.getElem?_take, if_pos (by omega)]]
    exact this, h.nil⟩
theorem fX_len (l : List α) (h : ∀ x ∈ l, (enc x).length = k) : (l.flatMap enc).length = l.length * k := by
  induction l with
  | nil => simp
  | cons x l ih =>
    have h1 := ih (fun y hy => h y (by simp [hy]))
    have h2 := h x (by simp)
    simp only [List.flatMap_cons, List.length_append, List.length_cons, Nat.add_mul] at h1 ⊢
    omega
theorem fX_one (l : List α) (h : ∀ x, ∀ v ∈ enc x, v.oneCell' = true) : ∀ v ∈ l.flatMap enc, v.oneCell' = true := by
  intro v hv
  obtain ⟨x, _, hx⟩ := List.mem_flatMap.1 hv
  exact h x v hx
theorem fX_at : ∀ (l : List α) (h : ∀ x ∈ l, (enc x).length = k) (i j : Nat), i < l.length → j < k → (l.flatMap enc)[i * k + j]? = (enc (l.getD i d))[j]?
  | [], h, i, j, hi, hj => by simp at hi
  | x :: r, h, 0, j, hi, hj => by
    have h2 := h x (by simp)
    simp only [List.flatMap_cons, Nat.zero_mul, Nat.zero_add]
    rw [List.getElem?_append_left (by omega)]
    rfl
  | x :: r, h, i + 1, j, hi, hj => by
    have h2 := h x (by simp)
    have := fX_at r (fun y hy => h y (by simp [hy])) i j (by simpa using hi) hj
    simp only [List.flatMap_cons]
    rw [List.getElem?_append_right (by rw [h2, Nat.add_mul]; omega), h2, show (i + 1) * k + j - k = i * k + j by rw [Nat.add_mul]; omega, this]
    rfl
theorem Px.cells {w : World} {b off cap : Nat} {l : List α} (hk : 0 < k) (h : Px enc k d w (some ⟨b, off, none⟩) cap l) (hw : ∀ x ∈ l, (enc x).length = k) : ∀ (j : Nat) (u : Value), (l.flatMap enc)[j]? = some u → w.cell? ((⟨b, off, none⟩ : Addr).add j) = some u := by
  intro j u hj
  have hlt := (List.getElem?_eq_some_iff.1 hj).1
  rw [fX_len l hw] at hlt
  have hd : j / k < l.length := Nat.div_lt_of_lt_mul (by rw [Nat.mul_comm]; exact hlt)
  have hm : j % k < k := Nat.mod_lt _ hk
  obtain ⟨b', off', e1, e2, e3⟩ := h.at_ (Nat.lt_of_le_of_lt (Nat.zero_le _) hd)
  cases e1
  have e : j / k * k + j % k = j := by rw [Nat.mul_comm]; exact Nat.div_add_mod j k
  have hf := fX_at (d := d) l hw (j / k) (j % k) hd hm
  rw [e, hj] at hf
  have := e3 (j / k) hd (j % k) u hf.symm
  rw [addr_add, ← this]
  congr 2
  omega
theorem Bx.alloc {e : TypeId} {w0 w : World} {B : Nat} {v : Value} {l : List α} (h : Bx enc k e w0 w B v l) (o : Obj) : Bx enc k e w0 (w.alloc o) B v l :=
  ⟨h.below.alloc h.le o, h.own.alloc o, Nat.le_trans h.le (by simp)⟩
theorem Bx.carry {e : TypeId} {w0 w w' : World} {B : Nat} {v : Value} {l : List α} (h : Bx enc k e w0 w B v l) (hb : Below w.heap.size w w') : Bx enc k e w0 w' B v l :=
  ⟨h.below.trans (hb.mono h.le), h.own.kept (row := none) ⟨hb.os, hb.tape, hb.output, hb.size, fun k hk _ => hb.block k hk⟩ (by cases h : v.ownBlock <;> simp), Nat.le_trans h.le hb.size⟩
theorem Bx.px {e : TypeId} {w0 w : World} {B : Nat} {v : Value} {l : List α} (h : Bx enc k e w0 w B v l) (hw : ∀ x ∈ l, (enc x).length = k) : ∃ a cap, v = .slice a l.length cap ∧ Px enc k d w a cap l ∧ (∀ p : Addr, a = some p → B ≤ p.block ∧ p.block < w.heap.size) ∧ (a = none ∨ ∃ b, a = some ⟨b, 0, none⟩) := by
  obtain ⟨hl, ⟨hv, h0⟩ | ⟨g, cap, cur, hv, hb, hh, hkc, hcm, hsz, htk⟩⟩ := h.own
  · refine ⟨none, 0, by rw [hv, h0], ⟨by omega, fun h => by omega, fun _ => rfl⟩, (fun p hp => by cases hp), .inl rfl⟩
  · refine ⟨_, cap, hv, ⟨hkc, fun _ => ⟨g, 0, rfl, lt_of_some hh, fun i hi j v hv => ?_⟩, fun e => by cases e⟩, (fun p hp => by cases hp; exact ⟨hb, lt_of_some hh⟩), .inr ⟨g, rfl⟩⟩
    have hj : j < k := by
      have := (List.getElem?_eq_some_iff.1 hv).1
      rw [hw _ (getD_mem l i d hi)] at this
      exact this
    have hf := fX_at (d := d) l hw i j hi hj
    rw [hv] at hf
    rw [Nat.zero_add, cell_of_row w g (i * k + j) _ _ _ hh]
    have hlt : i * k + j < l.length * k := by
      have := (List.getElem?_eq_some_iff.1 hf).1
      rw [fX_len l hw] at this
      exact this
    rw [← htk, List.getElem?_take_of_lt hlt] at hf
    simpa using hf
theorem wpList_bx_sl {w w0 : World} {ops : Array Oper} {rest : List Oper} {o : Oper} {a : Act} {Q : Exit → Act → World → Prop} (hgd : o.guard = none) (s x : Operand) (t e : TypeId) (hu : Tryz.prog.underlying t = some (.slice e)) {z : Value} {by_ : Nat} (hin : (Tryz.prog.info? e).map (fun i => (i.zero, i.size, i.bytes)) = some (some z, k, by_)) (hz : z.cells.size = k) (hk : 0 < k) (hby : by_ ≤ 100)
    (hone : ∀ x, ∀ v ∈ enc x, v.oneCell' = true)
    (ho : o.op = .call { callee := .builtin .append, args := #[s, x], argTypes := #[t, t] }) (B : Nat) (v : Value) (l : List α) (hs : a.eval s = v) (h : Bx enc k e w0 w B v l)
    (ax : Option Addr) (cx : Nat) (m : List α) (hx : a.eval x = .slice ax m.length cx) (hP : Px enc k d w ax cx m) (hw : ∀ x ∈ m, (enc x).length = k) (hl : l.length + m.length ≤ 30000)
    (hK : ∀ v' w', Bx enc k e w0 w' B v' (l ++ m) → w.grownBy w' v.ownBlock → wpList Tryz.prog ops Q rest (a.put o.dst v') w') : wpList Tryz.prog ops Q (o :: rest) a w := by
  obtain ⟨i, hi, hz0, hz1, hz2⟩ := info_parts hin
  cases ax with
  | none =>
    have hc : cx = 0 := hP.nil rfl
    have hcl := hP.capl
    obtain rfl : m = [] := List.length_eq_zero_iff.1 (by omega)
    subst hc
    refine wpList_plain hgd fun K hK' => ?_
    have hr := run_append_owned_none (P := Tryz.prog) w B t o.type e i k hu hi v _ _ h.own
    unfold Oper.wp execOp
    simp only [List.length_nil] at hx
    simp only [ho, resolve, invoke, builtin, Sem.run_bind, Sem.run_pure, Result.andThen_ok, List.map_toArray, List.map_cons, List.map_nil, hs, hx, hr]
    exact hK' _ _ (hK v w (by simpa using h) ⟨rfl, rfl, rfl, Nat.le_refl _, fun _ _ _ => rfl⟩)
  | some ad =>
    obtain ⟨bk, of, fr⟩ := ad
    by_cases h0 : m.length = 0
    · obtain rfl : m = [] := List.length_eq_zero_iff.1 h0
      refine wpList_append_own_at w hgd s x t ho B e i z k by_ hu hi hz0 hz1 hz2 hz hk v _ _ hs h.own ⟨bk, of, fr⟩ 0 cx [] hx (by simp) (fun j u hj => by cases hj) (fun u hu => by cases hu) (by unfold maxLen; omega) (by have h2 := Nat.mul_le_mul hl hby; exact Nat.le_trans h2 (by decide)) h.le ?_
      intro v' w' h1 h2 h3 h4
      refine hK v' w' ⟨h.below.grown h2 h.le (fun k hk => (own_lt h.own k hk).1), ?_, Nat.le_trans h.le h2.size⟩ h2
      simpa using h1
    · obtain ⟨b', off', e1, _⟩ := hP.at_ (by omega)
      cases e1
      refine wpList_append_own_at w hgd s x t ho B e i z k by_ hu hi hz0 hz1 hz2 hz hk v _ _ hs h.own ⟨bk, of, none⟩ m.length cx (m.flatMap enc) hx (fX_len m hw) (hP.cells hk hw) (fX_one m hone) (by unfold maxLen; omega) (by have h2 := Nat.mul_le_mul hl hby; exact Nat.le_trans h2 (by decide)) h.le ?_
      intro v' w' h1 h2 h3 h4
      refine hK v' w' ⟨h.below.grown h2 h.le (fun k hk => (own_lt h.own k hk).1), ?_, Nat.le_trans h.le h2.size⟩ h2
      rw [List.length_append, List.flatMap_append]
      exact h1
end
end Go.Proofs.YtijeogdnjeamaaaGreatDoor
