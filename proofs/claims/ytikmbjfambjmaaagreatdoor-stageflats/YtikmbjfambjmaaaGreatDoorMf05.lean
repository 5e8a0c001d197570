import Derived.Test.YtikmbjfambjmaaaGreatDoorMf03
import Derived.Test.YtikmbjfambjmaaaGreatDoorMf01
import Derived.Test.YtikmbjfambjmaaaGreatDoorMf02
import Derived.Defers
import Derived.Recover
import Derived.WalkKit
import Derived.LaidEql
import Derived.Stop.Asserts
import Derived.RowKitTokens
import Derived.Deep.AppendLies
import Derived.Deep.LoopGhost
import Derived.Deep.RegionWith
import Derived.Deep.QuietTactic
import Derived.BigQuiet
import Derived.WalkLawsBesides
import Derived.WalkSpells
import Derived.Laws.BitsAllLaws
import Derived.Laws.CopyOwn
import Derived.Laws.IdiomCopy
import Derived.Deep.RegionHeld3
import Derived.Deep.RegionLaw
import Derived.Deep.DrawnRows
import Derived.Deep.MidRow
import Derived.Laws.BytesArg
import Derived.Laws.Externs
import Derived.Test.YtikmbjfambjmaaaGreatDoorMf04
namespace Go.Proofs.YtikmbjfambjmaaaGreatDoor
open Go.RowKit
set_option linter.unusedVariables false
set_option linter.unusedSimpArgs false
def BIs (P : Prop) (e : Ending) : Prop := ∃ b : Bool, e = .returned (.bool b) ∧ (b = true ↔ P)
theorem bis_false {P : Prop} (h : ¬ P) : BIs P (.returned (.bool false)) := ⟨false, rfl, ⟨(fun h => by cases h), fun h2 => absurd h2 h⟩⟩
theorem bis_true {P : Prop} (h : P) : BIs P (.returned (.bool true)) := ⟨true, rfl, ⟨fun _ => h, fun _ => rfl⟩⟩
theorem bis_or {P : Prop} {e : Ending} (h : BIs P e) : (P ∧ e = .returned (.bool true)) ∨ (¬ P ∧ e = .returned (.bool false)) := by
  obtain ⟨b, rfl, hb⟩ := h
  cases b with
  | true => exact .inl ⟨hb.1 rfl, rfl⟩
  | false => exact .inr ⟨(fun h => by have := hb.2 h; cases this), rfl⟩
structure Per where
  name : List UInt8
  mail : List UInt8
  time : Int
  zone : Int
def perV (p : Per) : Array Value := #[.string ⟨p.name.toArray⟩, .string ⟨p.mail.toArray⟩, .int .i64 p.time, .int .i64 p.zone]
end Go.Proofs.YtikmbjfambjmaaaGreatDoor
namespace Go.Proofs.YtikmbjfambjmaaaGreatDoor
open Go.RowKit Go.Extern.Stop Go.Stop Go.Extern
set_option linter.unusedVariables false
set_option linter.unusedSimpArgs false
theorem valueOf45 (t : Addr) (w : World) : (ReflectliteValue.unpack (.iface 66 (.pointer (some t)))).run Tryz.prog w
    = .ok (.agg #[.pointer (some ⟨7, 66, none⟩), .pointer (some ⟨w.heap.size, 0, none⟩), .int .u64 150]) (w.alloc (.cells #[.pointer (some t)] 66)) := by kernel_rfl
theorem type45 (a : Addr) (w : World) : (ReflectliteValue.methodAny (ReflectliteValue.valueError "reflectlite.Value.Type" 0) (fun t _ _ _ => ReflectliteType.toType t) #[.agg #[.pointer (some ⟨7, 66, none⟩), .pointer (some a), .int .u64 150]]).run Tryz.prog w
    = .ok (.iface 116 (.agg #[.pointer (some ⟨7, 66, none⟩)])) w := by kernel_rfl
theorem methodKind (h : Value) (w : World) : (Go.method 380 116 (.agg #[h]) "Kind").run Tryz.prog w = .ok (166, h) w := by kernel_rfl
theorem kind45 (w : World) : ((ReflectliteType.abiMethod fun t => (fun a : Nat => Value.int IntKind.u8 (a : Int)) <$> Rtype.kind t) #[.pointer (some ⟨7, 66, none⟩)]).run Tryz.prog w = .ok (.int .u8 22) w := by kernel_rfl
theorem kind32 (w : World) : ((ReflectliteType.abiMethod fun t => (fun a : Nat => Value.int IntKind.u8 (a : Int)) <$> Rtype.kind t) #[.pointer (some ⟨7, 45, none⟩)]).run Tryz.prog w = .ok (.int .u8 2) w := by kernel_rfl
theorem methodElem (h : Value) (w : World) : (Go.method 380 116 (.agg #[h]) "Elem").run Tryz.prog w = .ok (179, .agg #[h]) w := by kernel_rfl
theorem methodImplements (h : Value) (w : World) : (Go.method 380 116 (.agg #[h]) "Implements").run Tryz.prog w = .ok (180, .agg #[h]) w := by kernel_rfl
theorem methodAssignableTo (h : Value) (w : World) : (Go.method 380 116 (.agg #[h]) "AssignableTo").run Tryz.prog w = .ok (177, .agg #[h]) w := by kernel_rfl
theorem elem45 (w : World) : (ReflectliteType.method ReflectliteType.elem #[.agg #[.pointer (some ⟨7, 66, none⟩)]]).run Tryz.prog w = .ok (.iface 116 (.agg #[.pointer (some ⟨7, 45, none⟩)])) w := by kernel_rfl
theorem implements32 (w : World) : (ReflectliteType.relation "Implements" ReflectliteType.implements_ #[.agg #[.pointer (some ⟨7, 45, none⟩)], .iface 116 (.agg #[.pointer (some ⟨7, 38, none⟩)])]).run Tryz.prog w = .ok (.bool true) w := by kernel_rfl
theorem typeOf32 (v : Value) (w : World) : (ReflectliteType.typeOf #[.iface 45 v]).run Tryz.prog w = .ok (.iface 116 (.agg #[.pointer (some ⟨7, 45, none⟩)])) w := by kernel_rfl
theorem assignable32 (w : World) : (ReflectliteType.relation "AssignableTo" ReflectliteType.assignableTo #[.agg #[.pointer (some ⟨7, 45, none⟩)], .iface 116 (.agg #[.pointer (some ⟨7, 45, none⟩)])]).run Tryz.prog w = .ok (.bool true) w := by kernel_rfl
theorem valueOf32 (k : Int) (w : World) : (ReflectliteValue.unpack (.iface 45 (.int .i64 k))).run Tryz.prog w
    = .ok (.agg #[.pointer (some ⟨7, 45, none⟩), .pointer (some ⟨w.heap.size, 0, none⟩), .int .u64 130]) (w.alloc (.cells #[.int .i64 k] 45)) := by kernel_rfl
theorem elemOf45 (w : World) : (Rtype.elem? 66).run Tryz.prog w = .ok (some 45) w := by kernel_rfl
theorem mk32 (p : Addr) (w : World) : (ReflectliteValue.mk 45 p ReflectliteValue.flagAddr).run Tryz.prog w = .ok (.agg #[.pointer (some ⟨7, 45, none⟩), .pointer (some p), .int .u64 386]) w := by kernel_rfl
theorem direct32 (w : World) : (Rtype.directlyAssignable 45 45).run Tryz.prog w = .ok true w := by kernel_rfl
theorem isNil_at (a : Addr) (W : World) : (ReflectliteValue.method (ReflectliteValue.valueError "reflectlite.Value.IsNil" 0) ReflectliteValue.isNil #[.agg #[.pointer (some ⟨7, 66, none⟩), .pointer (some a), .int .u64 150]]).run Tryz.prog W = (ReflectliteValue.isNil 66 a 150 22).run Tryz.prog W := by kernel_rfl
theorem elem_at (a : Addr) (W : World) : (ReflectliteValue.method (ReflectliteValue.valueError "reflectlite.Value.Elem" 0) ReflectliteValue.elem #[.agg #[.pointer (some ⟨7, 66, none⟩), .pointer (some a), .int .u64 150]]).run Tryz.prog W = (ReflectliteValue.elem 66 a 150 22).run Tryz.prog W := by kernel_rfl
theorem set_at (ta b : Addr) (W : World) : (ReflectliteValue.set #[.agg #[.pointer (some ⟨7, 45, none⟩), .pointer (some ta), .int .u64 386], .agg #[.pointer (some ⟨7, 45, none⟩), .pointer (some b), .int .u64 130]]).run Tryz.prog W = (loadVar 45 b >>= fun val => storeVar 45 ta val >>= fun _ => pure (.tuple #[])).run Tryz.prog W := by kernel_rfl
theorem isNil45 (a p : Addr) (W : World) (ha : W.cell? a = some (.pointer (some p))) :
    (ReflectliteValue.method (ReflectliteValue.valueError "reflectlite.Value.IsNil" 0) ReflectliteValue.isNil #[.agg #[.pointer (some ⟨7, 66, none⟩), .pointer (some a), .int .u64 150]]).run Tryz.prog W = .ok (.bool false) W := by
  rw [isNil_at]
  simp [ReflectliteValue.isNil, loadVar, isAgg, underlying, Tryz.underlying66, ha, Result.andThen]
theorem elemV45 (a p : Addr) (W : World) (ha : W.cell? a = some (.pointer (some p))) :
    (ReflectliteValue.method (ReflectliteValue.valueError "reflectlite.Value.Elem" 0) ReflectliteValue.elem #[.agg #[.pointer (some ⟨7, 66, none⟩), .pointer (some a), .int .u64 150]]).run Tryz.prog W
      = .ok (.agg #[.pointer (some ⟨7, 45, none⟩), .pointer (some p), .int .u64 386]) W := by
  rw [elem_at]
  simp [ReflectliteValue.elem, loadVar, isAgg, underlying, Tryz.underlying66, ha, Result.andThen, elemOf45, mk32]
theorem set32 (ta b : Addr) (k : Int) (old : Value) (W : World) (hb : W.cell? b = some (.int .i64 k)) (ht : W.cell? ta = some old) (hf : W.frozen? ta = false) :
    (ReflectliteValue.set #[.agg #[.pointer (some ⟨7, 45, none⟩), .pointer (some ta), .int .u64 386], .agg #[.pointer (some ⟨7, 45, none⟩), .pointer (some b), .int .u64 130]]).run Tryz.prog W
      = .ok (.tuple #[]) (W.setCell ta (.int .i64 k)) := by
  rw [set_at]
  simp [loadVar, isAgg, underlying, Tryz.underlying45, hb, Result.andThen, direct32, storeVar, Value.cells, storeCells, Addr.add]
  rw [run_store Tryz.prog W ta _ _ (by rfl)]
  simp [ht, hf]
end Go.Proofs.YtikmbjfambjmaaaGreatDoor
namespace Go.Proofs.YtikmbjfambjmaaaGreatDoor
open Go.RowKit Go.Extern.Stop Go.Stop Go.Extern
set_option linter.unusedVariables false
set_option linter.unusedSimpArgs false
set_option maxHeartbeats 4000000 in
set_option maxRecDepth 100000 in
theorem as_hit (k : Int) (t : Addr) (old : Value) (w : World) (hg : w.cell? ⟨0, 0, none⟩ = some (.iface 116 (.agg #[.pointer (some ⟨7, 38, none⟩)]))) (ht0 : w.cell? t = some old) (hf0 : w.frozen? t = false) :
    Calls Tryz.prog 17 #[.iface 45 (.int .i64 k), .iface 66 (.pointer (some t))] w fun ev w' => ev = .returned (.bool true) ∧ w' = ((((w.alloc (.cells #[.pointer (some t)] 66)).alloc (.cells #[.pointer (some ⟨7, 66, none⟩), .pointer (some ⟨w.heap.size, 0, none⟩), .int .u64 150] 94)).alloc (.cells #[.pointer (some ⟨7, 66, none⟩), .pointer (some ⟨w.heap.size, 0, none⟩), .int .u64 150] 94)).alloc (.cells #[.int .i64 k] 45)).setCell t (.int .i64 k) := by
  have h33 := @run_callFunc_extern Tryz.prog 27 _ (fun args => ReflectliteValue.unpack (args.getD 0 (.tuple #[]))) Tryz.func27 (by kernel_rfl) (by kernel_rfl) (by kernel_rfl) (by kernel_rfl)
  have h34 := @run_callFunc_extern Tryz.prog 28 _ (ReflectliteValue.methodAny (ReflectliteValue.valueError "reflectlite.Value.Type" 0) (fun t _ _ _ => ReflectliteType.toType t)) Tryz.func28 (by kernel_rfl) (by kernel_rfl) (by kernel_rfl) (by kernel_rfl)
  have h35 := @run_callFunc_extern Tryz.prog 29 _ (ReflectliteValue.method (ReflectliteValue.valueError "reflectlite.Value.IsNil" 0) ReflectliteValue.isNil) Tryz.func29 (by kernel_rfl) (by kernel_rfl) (by kernel_rfl) (by kernel_rfl)
  have h97 := @run_callFunc_extern Tryz.prog 166 _ (ReflectliteType.abiMethod fun t => do pure (.int .u8 (← Rtype.kind t))) Tryz.func166 (by kernel_rfl) (by kernel_rfl) (by kernel_rfl) (by kernel_rfl)
  have h107 := @run_callFunc_extern Tryz.prog 179 _ (ReflectliteType.method ReflectliteType.elem) Tryz.func179 (by kernel_rfl) (by kernel_rfl) (by kernel_rfl) (by kernel_rfl)
  have h108 := @run_callFunc_extern Tryz.prog 180 _ (ReflectliteType.relation "Implements" ReflectliteType.implements_) Tryz.func180 (by kernel_rfl) (by kernel_rfl) (by kernel_rfl) (by kernel_rfl)
  have h62 := @run_callFunc_extern Tryz.prog 41 _ ReflectliteType.typeOf Tryz.func41 (by kernel_rfl) (by kernel_rfl) (by kernel_rfl) (by kernel_rfl)
  have h105 := @run_callFunc_extern Tryz.prog 177 _ (ReflectliteType.relation "AssignableTo" ReflectliteType.assignableTo) Tryz.func177 (by kernel_rfl) (by kernel_rfl) (by kernel_rfl) (by kernel_rfl)
  have h63 := @run_callFunc_extern Tryz.prog 42 _ (ReflectliteValue.method (ReflectliteValue.valueError "reflectlite.Value.Elem" 0) ReflectliteValue.elem) Tryz.func42 (by kernel_rfl) (by kernel_rfl) (by kernel_rfl) (by kernel_rfl)
  have h64 := @run_callFunc_extern Tryz.prog 43 _ ReflectliteValue.set Tryz.func43 (by kernel_rfl) (by kernel_rfl) (by kernel_rfl) (by kernel_rfl)
  have tO := typeOf32
  have mA := methodAssignableTo
  have a32 := assignable32
  have v32 := valueOf32
  have f6 := valueOf45
  have f7 := type45
  have mK := methodKind
  have mE := methodElem
  have mI := methodImplements
  have k45 := kind45
  have k32 := kind32
  have e45 := elem45
  have i32 := implements32
  have n8 := isNil45 ⟨w.heap.size, 0, none⟩ t ((w.alloc (.cells #[.pointer (some t)] 66)).alloc (.cells #[.pointer (some ⟨7, 66, none⟩), .pointer (some ⟨w.heap.size, 0, none⟩), .int .u64 150] 94)) (by simp)
  have hlt : 0 < w.heap.size := by
    rcases Nat.lt_or_ge 0 w.heap.size with h | h
    · exact h
    · simp [World.cell?, Array.getElem?_eq_none h] at hg
  have hg2 : ((w.alloc (.cells #[.pointer (some t)] 66)).alloc (.cells #[.pointer (some ⟨7, 66, none⟩), .pointer (some ⟨w.heap.size, 0, none⟩), .int .u64 150] 94)).cell? ⟨0, 0, none⟩ = some (.iface 116 (.agg #[.pointer (some ⟨7, 38, none⟩)])) := by
    rw [World.cell?_alloc_lt _ _ ⟨0, 0, none⟩ (by simp), World.cell?_alloc_lt _ _ ⟨0, 0, none⟩ hlt]; exact hg
  have htl : t.block < w.heap.size := by
    rcases Nat.lt_or_ge t.block w.heap.size with h | h
    · exact h
    · simp [World.cell?, Array.getElem?_eq_none h] at ht0
  have el := elemV45 ⟨w.heap.size, 0, none⟩ t (((w.alloc (.cells #[.pointer (some t)] 66)).alloc (.cells #[.pointer (some ⟨7, 66, none⟩), .pointer (some ⟨w.heap.size, 0, none⟩), .int .u64 150] 94)).alloc (.cells #[.pointer (some ⟨7, 66, none⟩), .pointer (some ⟨w.heap.size, 0, none⟩), .int .u64 150] 94)) (by rw [World.cell?_alloc_lt _ _ ⟨w.heap.size, 0, none⟩ (by simp; omega)]; simp)
  have st := set32 t ⟨w.heap.size + 1 + 1 + 1, 0, none⟩ k old ((((w.alloc (.cells #[.pointer (some t)] 66)).alloc (.cells #[.pointer (some ⟨7, 66, none⟩), .pointer (some ⟨w.heap.size, 0, none⟩), .int .u64 150] 94)).alloc (.cells #[.pointer (some ⟨7, 66, none⟩), .pointer (some ⟨w.heap.size, 0, none⟩), .int .u64 150] 94)).alloc (.cells #[.int .i64 k] 45))
    (by rw [World.cell?_alloc_at _ _ _ _ (by simp)]; rfl)
    (by rw [World.cell?_alloc_lt _ _ t (by simp; omega), World.cell?_alloc_lt _ _ t (by simp; omega), World.cell?_alloc_lt _ _ t (by simp; omega), World.cell?_alloc_lt _ _ t htl]; exact ht0)
    (by rw [World.frozen?_alloc_old _ _ t (by simp; omega), World.frozen?_alloc_old _ _ t (by simp; omega), World.frozen?_alloc_old _ _ t (by simp; omega), World.frozen?_alloc_old _ _ t (Nat.ne_of_lt htl)]; exact hf0)
  go_enter Tryz.func17, Tryz.ntmps17
  go_wp2
  refine wp_loop_rounds 1 ?_
  rw [rounds_succ]
  go_wp2
  go_ret
  exact ⟨rfl, rfl⟩
theorem tell_nil (w : World) : Calls Tryz.prog 10 #[.nilIface] w fun e w' => e = .returned (.int .i64 0) ∧ Below w.heap.size w w' := by
  have HB : Hid (Below w.heap.size w (w.alloc (.cells #[.int .i64 0] 45))) := (Below.refl _ w).alloc (Nat.le_refl _) _
  go_enter Tryz.func10, Tryz.ntmps10
  go_wp2
  go_ret
  exact ⟨rfl, HB.out⟩
theorem tell_errno (k : Int) (w : World) (hg : w.cell? ⟨0, 0, none⟩ = some (.iface 116 (.agg #[.pointer (some ⟨7, 38, none⟩)]))) :
    Calls Tryz.prog 10 #[.iface 45 (.int .i64 k)] w fun e w' => e = .returned (.int .i64 k) ∧ Below w.heap.size w w' := by
  have hlt : 0 < w.heap.size := by
    rcases Nat.lt_or_ge 0 w.heap.size with h | h
    · exact h
    · simp [World.cell?, Array.getElem?_eq_none h] at hg
  have hg2 : (w.alloc (.cells #[.int .i64 0] 45)).cell? ⟨0, 0, none⟩ = some (.iface 116 (.agg #[.pointer (some ⟨7, 38, none⟩)])) := by
    rw [World.cell?_alloc_lt _ _ ⟨0, 0, none⟩ hlt]; exact hg
  go_enter Tryz.func10, Tryz.ntmps10
  go_wp2_with (go_at_call 17; refine (as_hit k ⟨w.heap.size, 0, none⟩ (.int .i64 0) _ hg2 (by simp) (by simp [go_sem])).mono ?_; rintro e w' ⟨rfl, rfl⟩)
  go_ret
  exact ⟨rfl, (((((Below.refl _ w).alloc (Nat.le_refl _) _).alloc (by simp) _).alloc (by simp; omega) _).alloc (by simp; omega) _).alloc (by simp; omega) _⟩
end Go.Proofs.YtikmbjfambjmaaaGreatDoor
namespace Go.Proofs.YtikmbjfambjmaaaGreatDoor.Hx
open Go.RowKit
set_option linter.unusedVariables false
theorem Tryz.info5 : (Tryz.prog.info? 5).map (fun i => (i.zero, i.size, i.bytes)) = some (some (.int .u8 0), 1, 1) := by kernel_rfl
theorem info_parts {o : Option TypeInfo} {z : Value} {a b : Nat} (h : o.map (fun i => (i.zero, i.size, i.bytes)) = some (some z, a, b)) : ∃ i, o = some i ∧ i.zero = some z ∧ i.size = a ∧ i.bytes = b := by
  cases o with
  | none => simp at h
  | some i => simp at h; exact ⟨i, rfl, h.1, h.2.1, h.2.2⟩
def row (zs : List Int) : List Value := zs.map (Value.int .u8)
theorem row_len (zs : List Int) : (row zs).length = zs.length := by simp [row]
theorem row_at (zs : List Int) (i : Nat) (h : i < zs.length) : (row zs)[i]? = some (.int .u8 (zs.getD i 0)) := by simp [row, h]
theorem row_one (zs : List Int) : ∀ v ∈ row zs, v.oneCell' = true := by
  intro v hv; simp only [row, List.mem_map] at hv; obtain ⟨c, _, rfl⟩ := hv; rfl
theorem row_set (zs : List Int) (n : Nat) (c : Int) : (row zs).toArray.setIfInBounds n (.int .u8 c) = (row (zs.set n c)).toArray := by
  simp [row, List.map_set]
theorem row_cell {w : World} {g : Nat} {zs : List Int} {t : TypeId} {fr : Nat × Nat} (h : w.heap[g]? = some (.cells (row zs).toArray t fr)) (i : Nat) (hi : i < zs.length) : w.cell? ⟨g, i, none⟩ = some (.int .u8 (zs.getD i 0)) := by
  rw [cell_of_row w g i _ t fr h]; simpa using row_at zs i hi
theorem range_row {w : World} {g : Nat} {cs : List Value} {t : TypeId} {fr : Nat × Nat} (h : w.heap[g]? = some (.cells cs.toArray t fr)) : w.rangeAt g 0 cs := fun j v hv => by
  rw [Nat.zero_add, cell_of_row w g j _ t fr h]; simpa using hv
theorem there_row {w : World} {g n : Nat} {zs : List Int} {t : TypeId} (h : w.heap[g]? = some (.cells (row zs).toArray t (0, 0))) (hn : zs.length = n) : w.there g 0 n := fun j hj => by
  rw [Nat.zero_add]
  exact ⟨by rw [row_cell h j (by omega)]; rfl, frozen_of_row w g j _ t h⟩
theorem index_row {P : Program} (t e : TypeId) (n : Nat) (cs : Array Value) (k : IntKind) (i : Nat) (v : Value) (w : World) (h : P.underlying t = some (.array n e)) (he : (P.info? e).map (·.size) = some 1) (d : TypeDesc) (hu : P.underlying e = some d) (hd : d.isRow = false) (hi : i < n) (hv : cs[i]? = some v) :
    (Instr.index t (.agg cs) (.int k i)).run P w = .ok v w := by
  cases hq : P.info? e with
  | none => simp [hq] at he
  | some inf =>
    have hs : inf.size = 1 := by simpa [hq] using he
    have hagg : (isAgg e).run P w = .ok false w := by
      unfold isAgg
      rw [Sem.run_bind, run_underlying hu w]
      cases d <;> simp_all
    simp [Instr.index, asIntOf, run_underlying h, hi, part, sizeOf, typeInfo, hq, hs, hagg, hv]
theorem Tryz.size5 : (Tryz.prog.info? 5).map (·.size) = some 1 := by kernel_rfl
theorem own_lt {w : World} {B : Nat} {e : TypeId} {s : Nat} {v : Value} {n : Nat} {xs : List Value} (h : w.ownsRow B e s v n xs) (k : Nat) (hk : v.ownBlock = some k) : B ≤ k ∧ k < w.heap.size := h.lt k hk
theorem below_step {B : Nat} {w0 w wx w3 : World} {r : Option Nat} (h : Below B w0 w) (hB : B ≤ w0.heap.size) (hx : w.grownBy wx none) (hg : wx.grownBy w3 r) (hr : ∀ k, r = some k → B ≤ k) : Below B w0 w3 :=
  (h.grown hx (Nat.le_trans hB h.size) (fun k h => by cases h)).grown hg (Nat.le_trans (Nat.le_trans hB h.size) hx.size) hr
end Go.Proofs.YtikmbjfambjmaaaGreatDoor.Hx
namespace Go.Proofs.YtikmbjfambjmaaaGreatDoor.Hx
open Go.RowKit
set_option linter.unusedVariables false
theorem wrap_u8 (n : Int) (h0 : 0 ≤ n) (h1 : n < 256) : IntKind.u8.wrap n = n := by
  obtain ⟨m, rfl⟩ := Int.eq_ofNat_of_zero_le h0
  have : ∀ m : Nat, m < 256 → IntKind.u8.wrap (m : Int) = m := by decide +kernel
  exact this m (by omega)
end Go.Proofs.YtikmbjfambjmaaaGreatDoor.Hx
namespace Go.Proofs.YtikmbjfambjmaaaGreatDoor.Hx
open Go.RowKit
set_option linter.unusedVariables false
def hv (c : Int) : Int := if 48 ≤ c ∧ c ≤ 57 then c - 48 else if 97 ≤ c ∧ c ≤ 102 then c - 87 else -1
theorem results_mid2 {P : Program} {fn : Func} {p q : Tmp} {ty : TypeId} {t2 : TypeId} (h : fn.results = #[.cell p ty, .tmp q]) (tmps : Array Value) (w : World) (g : Nat) (cs : List Value) (d : TypeDesc) (v : Value)
    (hp : tmps.getD p undef = .pointer (some ⟨g, 0, none⟩)) (hq : tmps.getD q undef = v) (hc : w.rangeAt g 0 cs) (hu : P.underlying ty = some d) (hd : d.isRow = true) (hi : (P.info? ty).map (·.size) = some cs.length) :
    (results fn tmps).run P w = .ok (.tuple #[.agg cs.toArray, v]) w := by
  have hp' : tmps[p]?.getD undef = .pointer (some ⟨g, 0, none⟩) := by simpa using hp
  have hq' : tmps[q]?.getD undef = v := by simpa using hq
  simp [results, h, hp', hq', asAddr, run_loadVar_mid w g 0 ty cs d hc hu hd hi]
end Go.Proofs.YtikmbjfambjmaaaGreatDoor.Hx
namespace Go.Proofs.YtikmbjfambjmaaaGreatDoor.Hx
open Go.RowKit
set_option linter.unusedVariables false
theorem below_setCells {B g : Nat} (hB : B ≤ g) : ∀ (vs : List Value) (o : Nat) (w0 w : World), Below B w0 w → Below B w0 (w.setCells g o vs)
  | [], _, _, _, h => h
  | v :: r, o, w0, _, h => below_setCells hB r (o + 1) w0 _ (h.setCell (p := ⟨g, o, none⟩) hB v)
end Go.Proofs.YtikmbjfambjmaaaGreatDoor.Hx
namespace Go.Proofs.YtikmbjfambjmaaaGreatDoor
open Go.RowKit
set_option linter.unusedVariables false
set_option linter.unusedSimpArgs false
structure Rd (g : Nat) (r : ByteArray) (w w' : World) : Prop where
  os : w'.os = w.os
  tape : w'.tape = w.tape
  output : w'.output = w.output
  size : w.heap.size ≤ w'.heap.size
  block : ∀ b, b < w.heap.size → b ≠ g → w'.heap[b]? = w.heap[b]?
  box : w'.heap[g]? = some (.cells #[.string r] 220 (0, 0))
theorem lt_of_some {w : World} {g : Nat} {o : Obj} (h : w.heap[g]? = some o) : g < w.heap.size := (Array.getElem?_eq_some_iff.1 h).1
theorem Rd.below {g : Nat} {r : ByteArray} {w w' : World} (h : Rd g r w w') {B : Nat} {w0 : World} (hb : Below B w0 w) (hB : B ≤ g) (hg : g < w.heap.size) : Below B w0 w' :=
  ⟨h.os.trans hb.os, h.tape.trans hb.tape, h.output.trans hb.output, Nat.le_trans hb.size h.size, fun k hk => (h.block k (by omega) (by omega)).trans (hb.block k hk)⟩
theorem Rd.wide {g : Nat} {r : ByteArray} {w w1 w2 w3 : World} (hg : g < w.heap.size) (h1 : Below w.heap.size w w1) (h : Rd g r w1 w2) (h2 : Below w.heap.size w2 w3) : Rd g r w w3 :=
  ⟨h2.os.trans (h.os.trans h1.os), h2.tape.trans (h.tape.trans h1.tape), h2.output.trans (h.output.trans h1.output), Nat.le_trans h1.size (Nat.le_trans h.size h2.size), fun b hb hne => (h2.block b hb).trans ((h.block b (Nat.lt_of_lt_of_le hb h1.size) hne).trans (h1.block b hb)), (h2.block g hg).trans h.box⟩
theorem Rd.cell {g : Nat} {r : ByteArray} {w w' : World} (h : Rd g r w w') {p : Addr} (hp : p.block < w.heap.size) (hne : p.block ≠ g) : w'.cell? p = w.cell? p := by
  simp only [World.cell?, h.block p.block hp hne]
theorem Mx.rd {g : Nat} {r : ByteArray} {w w' : World} (h : Mx w) (hr : Rd g r w w') (hg : 1 < g) : Mx w' := by
  obtain ⟨m, hm⟩ := h
  refine ⟨m, ?_⟩
  have h1 : 1 < w.heap.size := by
    rcases Nat.lt_or_ge 1 w.heap.size with h' | h'
    · exact h'
    · simp [World.cell?, Array.getElem?_eq_none h'] at hm
  exact (hr.cell (p := ⟨1, 0, none⟩) h1 (by simp; omega)).trans hm
end Go.Proofs.YtikmbjfambjmaaaGreatDoor
namespace Go.Proofs.YtikmbjfambjmaaaGreatDoor
open Go.RowKit
set_option linter.unusedVariables false
theorem row_snoc (k : IntKind) (l : List Int) (x : Int) : row k (l ++ [x]) = row k l ++ [.int k x] := by simp [row]
theorem pad_iff (n j : Nat) (h : j ≤ pads n) : ((n + (1 + j) + 8) % 64 = 0) ↔ j = pads n := by unfold pads at *; omega
set_option maxRecDepth 20000 in
set_option maxHeartbeats 2000000 in
theorem end_any (n : Nat) (w : World) (hn : n ≤ 700000) :
    Calls Tryz.prog 66 #[.int .u64 n] w fun e w' => ∃ g cp, e = .returned (.slice (some ⟨g, 0, none⟩) (endOf n).length cp) ∧ Below w.heap.size w w' ∧ w.heap.size ≤ g ∧ g < w'.heap.size ∧ At w' g 0 (endOf n) ∧ (endOf n).length ≤ cp := by
  obtain ⟨i5, hi, hz0, hz1, hz2⟩ := info_parts Tryz.info5
  have HB0 : Hid (Below w.heap.size w (w.alloc (.cells #[.int .u8 128] 5))) := (Below.refl _ w).alloc (Nat.le_refl _) _
  have hp63 := pads_le n
  go_enter Tryz.func66, Tryz.ntmps66
  go_wp2
  go_loopg [3] (pads n) (fun g s wr => ∃ (j gb cp : Nat) (ls : List Int), j ≤ pads n ∧ g = pads n - j ∧ s = .slice (some ⟨gb, 0, none⟩) (1 + j : Nat) cp ∧ Hid (ls = 128 :: List.replicate j 0) ∧ wr.ownsRow w.heap.size 5 1 (.slice (some ⟨gb, 0, none⟩) (1 + j : Nat) cp) (1 + j) (row .u8 ls) ∧ Hid (Below w.heap.size w wr))
  case atStart => exact ⟨0, w.heap.size, 1, _, by omega, rfl, rfl, rfl, World.ownsRow_lit w #[.int .u8 128] 1 (Nat.le_refl _) (by unfold maxLen; omega) rfl, HB0⟩
  case round =>
    obtain ⟨j, gb, cp, ls, hj, hk, rfl, HLs, hown, HB⟩ := hrel
    by_cases hlt : j < pads n
    · have hc : ((n : Int) + (1 + j) + 8) % 64 ≠ 0 := by have := pad_iff n j hj; omega
      go_wp2_with (refine wpList_append_lies _ rfl _ _ _ rfl w.heap.size 5 i5 (.int .u8 0) 1 1 Tryz.underlying26 hi hz0 hz1 hz2 rfl (by omega) (.slice (some ⟨gb, 0, none⟩) (1 + j : Nat) cp) (1 + j) (row .u8 ls) rfl (by exact hown.alloc _) ⟨wr.heap.size, 0, none⟩ 1 1 [.int .u8 0] rfl rfl (by intro j u hj; match j, hj with | 0, hj => simp at hj; subst hj; simp [Addr.add]) (by intro u hu; simp at hu; subst hu; rfl) (by omega) (by unfold maxLen; omega) (by omega) (by have := HB.out.size; simp; omega) (wr.heap.size + 1) (by simp) ?_; intro g2 cp2 w3 hown1 hgrow hat hlt2)
      have HB2 : Hid (Below w.heap.size w w3) := below_step HB.out (Nat.le_refl _) (World.grownBy_alloc wr _ none) hgrow (fun k hk => (own_lt hown k hk).1)
      have HO : Hid (w3.ownsRow w.heap.size 5 1 (.slice (some ⟨g2, 0, none⟩) (1 + j + 1 : Nat) cp2) (1 + j + 1) (row .u8 (ls ++ [0]))) := hid (by rw [row_snoc]; exact hown1)
      clear hown1 hgrow hat hown
      go_wp2
      go_roundg (pads n - (j + 1))
      case measure => omega
      case rel => exact ⟨j + 1, g2, cp2, ls ++ [0], by omega, rfl, rfl, hid (by rw [HLs.out, List.replicate_succ', List.cons_append]), HO.out, HB2⟩
    · obtain rfl : j = pads n := by omega
      have hc : ((n : Int) + (1 + (pads n : Nat)) + 8) % 64 = 0 := by have := pad_iff n (pads n) (Nat.le_refl _); omega
      obtain ⟨q, HQ⟩ : ∃ q, Hid (q = 1 + pads n) := ⟨_, rfl⟩
      have hq64 : q ≤ 64 := by have := HQ.out; omega
      rw [← HQ.out] at hown
      have hc2 : ((n : Int) + q + 8) % 64 = 0 := by have := HQ.out; omega
      rw [← HQ.out]
      have HLq : Hid (ls = 128 :: List.replicate (pads n) 0) := HLs.out
      clear hc hlt hj hk
      go_wp2
      clear hc2
      go_loopg [3, 20] 8 (fun g s i wr => ∃ (j gb cp : Nat) (ls : List Int), j ≤ 8 ∧ g = 8 - j ∧ i = .int .i64 j ∧ s = .slice (some ⟨gb, 0, none⟩) (q + j : Nat) cp ∧ Hid (ls = 128 :: List.replicate (pads n) 0 ++ (List.range j).map (be8 (8 * n))) ∧ wr.ownsRow w.heap.size 5 1 (.slice (some ⟨gb, 0, none⟩) (q + j : Nat) cp) (q + j) (row .u8 ls) ∧ Hid (Below w.heap.size w wr))
      case atStart => exact ⟨0, gb, cp, ls, by omega, rfl, rfl, rfl, hid (by rw [HLq.out]; simp), hown, HB⟩
      case round =>
        clear hown HB
        obtain ⟨j, gb, cp, ls, hj, hk, rfl, rfl, HLs, hown, HB⟩ := hrel
        by_cases hlt : j < 8
        · obtain ⟨x, HX⟩ : ∃ x, Hid (x = be8 (8 * n) j) := ⟨_, rfl⟩
          have hx : 8 * (n : Int) / 2 ^ (8 * (7 - j)) % 256 = x := by rw [HX.out]; unfold be8; rw [Int.natCast_emod, Int.natCast_ediv, Int.natCast_mul, Int.natCast_pow]; rfl
          go_wp2_with (refine wpList_append_lies _ rfl _ _ _ rfl w.heap.size 5 i5 (.int .u8 0) 1 1 Tryz.underlying26 hi hz0 hz1 hz2 rfl (by omega) (.slice (some ⟨gb, 0, none⟩) (q + j : Nat) cp) (q + j) (row .u8 ls) rfl (by exact hown.alloc _) ⟨wr.heap.size, 0, none⟩ 1 1 [.int .u8 x] rfl rfl (by intro j u hj; match j, hj with | 0, hj => simp at hj; subst hj; simp [Addr.add]) (by intro u hu; simp at hu; subst hu; rfl) (by omega) (by unfold maxLen; omega) (by omega) (by have := HB.out.size; simp; omega) (wr.heap.size + 1) (by simp) ?_; intro g2 cp2 w3 hown1 hgrow hat hlt2)
          have HB2 : Hid (Below w.heap.size w w3) := below_step HB.out (Nat.le_refl _) (World.grownBy_alloc wr _ none) hgrow (fun k hk => (own_lt hown k hk).1)
          have HO : Hid (w3.ownsRow w.heap.size 5 1 (.slice (some ⟨g2, 0, none⟩) (q + j + 1 : Nat) cp2) (q + j + 1) (row .u8 (ls ++ [x]))) := hid (by rw [row_snoc]; exact hown1)
          clear hown1 hgrow hat hown hx
          go_wp2
          go_roundg (8 - (j + 1))
          case measure => omega
          case rel => exact ⟨j + 1, g2, cp2, ls ++ [x], by omega, rfl, by go_num, rfl, hid (by rw [HLs.out, HX.out, List.range_succ, List.map_append, List.append_assoc]; rfl), HO.out, HB2⟩
        · obtain rfl : j = 8 := by omega
          have HE : Hid (ls = endOf n) := hid (by rw [HLs.out]; rfl)
          have hel : (endOf n).length = q + 8 := by rw [endOf_len]; have := HQ.out; omega
          obtain ⟨g0, cp0, hform, hg0, hcp0⟩ := hown.form (by omega)
          have hlt3 := (own_lt hown gb rfl)
          have HAt : Hid (At wr gb 0 (endOf n)) := fun i hi => by
            rw [Nat.zero_add, hown.cellAt i (by omega), HE.out, row_at .u8 (endOf n) i hi]
          have hcp : q + 8 ≤ cp := by
            rcases hown.2 with ⟨_, h0⟩ | ⟨g, cap, cur, hv, _, _, h1, _⟩
            · omega
            · simp only [Value.slice.injEq] at hv; omega
          go_wp2
          go_ret
          exact ⟨gb, cp, by rw [hel]; rfl, HB.out, hlt3.1, hlt3.2, HAt.out, by rw [hel]; exact hcp⟩
end Go.Proofs.YtikmbjfambjmaaaGreatDoor
