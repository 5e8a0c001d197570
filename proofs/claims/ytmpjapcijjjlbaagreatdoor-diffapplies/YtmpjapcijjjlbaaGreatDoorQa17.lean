import Derived.Test.YtmpjapcijjjlbaaGreatDoorQa10
import Derived.Defers
import Derived.Recover
import Derived.WalkKit
import Derived.LaidEql
import Derived.Stop.Asserts
import Derived.RowKitTokens
import Derived.RangeFuncNested
import Derived.RangeFuncBound
import Derived.RangeFuncCalls
import Derived.RangeFuncLeaves
import Derived.RangeFuncBox
import Derived.Shelf.Abstract
import Derived.Shelf.RegionOpen
import Derived.OwnWalkIn
import Derived.TacticsInMore
import Derived.LoopNIn
import Derived.LoopIn
import Derived.Sort.LoopGhostIn
import Derived.Test.YtmpjapcijjjlbaaGreatDoorQa07
import Derived.Test.YtmpjapcijjjlbaaGreatDoorQa08
import Derived.Test.YtmpjapcijjjlbaaGreatDoorQa16
import Derived.Test.YtmpjapcijjjlbaaGreatDoorQa13
namespace Go.Proofs.YtmpjapcijjjlbaaGreatDoor
open Go.RowKit Go.Extern.Stop Go.Stop Go.Extern
set_option linter.unusedVariables false
set_option linter.unusedSimpArgs false
theorem valueOf45 (t : Addr) (w : World) : (ReflectliteValue.unpack (.iface 53 (.pointer (some t)))).run Tryz.prog w
    = .ok (.agg #[.pointer (some ⟨7, 53, none⟩), .pointer (some ⟨w.heap.size, 0, none⟩), .int .u64 150]) (w.alloc (.cells #[.pointer (some t)] 53)) := by kernel_rfl
theorem type45 (a : Addr) (w : World) : (ReflectliteValue.methodAny (ReflectliteValue.valueError "reflectlite.Value.Type" 0) (fun t _ _ _ => ReflectliteType.toType t) #[.agg #[.pointer (some ⟨7, 53, none⟩), .pointer (some a), .int .u64 150]]).run Tryz.prog w
    = .ok (.iface 128 (.agg #[.pointer (some ⟨7, 53, none⟩)])) w := by kernel_rfl
theorem methodKind (h : Value) (w : World) : (Go.method 314 128 (.agg #[h]) "Kind").run Tryz.prog w = .ok (129, h) w := by kernel_rfl
theorem kind45 (w : World) : ((ReflectliteType.abiMethod fun t => (fun a : Nat => Value.int IntKind.u8 (a : Int)) <$> Rtype.kind t) #[.pointer (some ⟨7, 53, none⟩)]).run Tryz.prog w = .ok (.int .u8 22) w := by kernel_rfl
theorem kind32 (w : World) : ((ReflectliteType.abiMethod fun t => (fun a : Nat => Value.int IntKind.u8 (a : Int)) <$> Rtype.kind t) #[.pointer (some ⟨7, 33, none⟩)]).run Tryz.prog w = .ok (.int .u8 2) w := by kernel_rfl
theorem methodElem (h : Value) (w : World) : (Go.method 314 128 (.agg #[h]) "Elem").run Tryz.prog w = .ok (140, .agg #[h]) w := by kernel_rfl
theorem methodImplements (h : Value) (w : World) : (Go.method 314 128 (.agg #[h]) "Implements").run Tryz.prog w = .ok (141, .agg #[h]) w := by kernel_rfl
theorem methodAssignableTo (h : Value) (w : World) : (Go.method 314 128 (.agg #[h]) "AssignableTo").run Tryz.prog w = .ok (138, .agg #[h]) w := by kernel_rfl
theorem elem45 (w : World) : (ReflectliteType.method ReflectliteType.elem #[.agg #[.pointer (some ⟨7, 53, none⟩)]]).run Tryz.prog w = .ok (.iface 128 (.agg #[.pointer (some ⟨7, 33, none⟩)])) w := by kernel_rfl
theorem implements32 (w : World) : (ReflectliteType.relation "Implements" ReflectliteType.implements_ #[.agg #[.pointer (some ⟨7, 33, none⟩)], .iface 128 (.agg #[.pointer (some ⟨7, 29, none⟩)])]).run Tryz.prog w = .ok (.bool true) w := by kernel_rfl
theorem typeOf32 (v : Value) (w : World) : (ReflectliteType.typeOf #[.iface 33 v]).run Tryz.prog w = .ok (.iface 128 (.agg #[.pointer (some ⟨7, 33, none⟩)])) w := by kernel_rfl
theorem assignable32 (w : World) : (ReflectliteType.relation "AssignableTo" ReflectliteType.assignableTo #[.agg #[.pointer (some ⟨7, 33, none⟩)], .iface 128 (.agg #[.pointer (some ⟨7, 33, none⟩)])]).run Tryz.prog w = .ok (.bool true) w := by kernel_rfl
theorem valueOf32 (k : Int) (w : World) : (ReflectliteValue.unpack (.iface 33 (.int .i64 k))).run Tryz.prog w
    = .ok (.agg #[.pointer (some ⟨7, 33, none⟩), .pointer (some ⟨w.heap.size, 0, none⟩), .int .u64 130]) (w.alloc (.cells #[.int .i64 k] 33)) := by kernel_rfl
theorem elemOf45 (w : World) : (Rtype.elem? 53).run Tryz.prog w = .ok (some 33) w := by kernel_rfl
theorem mk32 (p : Addr) (w : World) : (ReflectliteValue.mk 33 p ReflectliteValue.flagAddr).run Tryz.prog w = .ok (.agg #[.pointer (some ⟨7, 33, none⟩), .pointer (some p), .int .u64 386]) w := by kernel_rfl
theorem direct32 (w : World) : (Rtype.directlyAssignable 33 33).run Tryz.prog w = .ok true w := by kernel_rfl
theorem isNil_at (a : Addr) (W : World) : (ReflectliteValue.method (ReflectliteValue.valueError "reflectlite.Value.IsNil" 0) ReflectliteValue.isNil #[.agg #[.pointer (some ⟨7, 53, none⟩), .pointer (some a), .int .u64 150]]).run Tryz.prog W = (ReflectliteValue.isNil 53 a 150 22).run Tryz.prog W := by kernel_rfl
theorem elem_at (a : Addr) (W : World) : (ReflectliteValue.method (ReflectliteValue.valueError "reflectlite.Value.Elem" 0) ReflectliteValue.elem #[.agg #[.pointer (some ⟨7, 53, none⟩), .pointer (some a), .int .u64 150]]).run Tryz.prog W = (ReflectliteValue.elem 53 a 150 22).run Tryz.prog W := by kernel_rfl
theorem setR_at (ta b : Addr) (W : World) : (ReflectliteValue.set #[.agg #[.pointer (some ⟨7, 33, none⟩), .pointer (some ta), .int .u64 386], .agg #[.pointer (some ⟨7, 33, none⟩), .pointer (some b), .int .u64 130]]).run Tryz.prog W = (loadVar 33 b >>= fun val => storeVar 33 ta val >>= fun _ => pure (.tuple #[])).run Tryz.prog W := by kernel_rfl
theorem isNil45 (a p : Addr) (W : World) (ha : W.cell? a = some (.pointer (some p))) :
    (ReflectliteValue.method (ReflectliteValue.valueError "reflectlite.Value.IsNil" 0) ReflectliteValue.isNil #[.agg #[.pointer (some ⟨7, 53, none⟩), .pointer (some a), .int .u64 150]]).run Tryz.prog W = .ok (.bool false) W := by
  rw [isNil_at]
  simp [ReflectliteValue.isNil, loadVar, isAgg, underlying, Tryz.underlying53, ha, Result.andThen]
theorem elemV45 (a p : Addr) (W : World) (ha : W.cell? a = some (.pointer (some p))) :
    (ReflectliteValue.method (ReflectliteValue.valueError "reflectlite.Value.Elem" 0) ReflectliteValue.elem #[.agg #[.pointer (some ⟨7, 53, none⟩), .pointer (some a), .int .u64 150]]).run Tryz.prog W
      = .ok (.agg #[.pointer (some ⟨7, 33, none⟩), .pointer (some p), .int .u64 386]) W := by
  rw [elem_at]
  simp [ReflectliteValue.elem, loadVar, isAgg, underlying, Tryz.underlying53, ha, Result.andThen, elemOf45, mk32]
theorem set32 (ta b : Addr) (k : Int) (old : Value) (W : World) (hb : W.cell? b = some (.int .i64 k)) (ht : W.cell? ta = some old) (hf : W.frozen? ta = false) :
    (ReflectliteValue.set #[.agg #[.pointer (some ⟨7, 33, none⟩), .pointer (some ta), .int .u64 386], .agg #[.pointer (some ⟨7, 33, none⟩), .pointer (some b), .int .u64 130]]).run Tryz.prog W
      = .ok (.tuple #[]) (W.setCell ta (.int .i64 k)) := by
  rw [setR_at]
  simp [loadVar, isAgg, underlying, Tryz.underlying33, hb, Result.andThen, direct32, storeVar, Value.cells, storeCells, Addr.add]
  rw [run_store Tryz.prog W ta _ _ (by rfl)]
  simp [ht, hf]
end Go.Proofs.YtmpjapcijjjlbaaGreatDoor
namespace Go.Proofs.YtmpjapcijjjlbaaGreatDoor
open Go.RowKit Go.Extern.Stop Go.Stop Go.Extern
set_option linter.unusedVariables false
set_option linter.unusedSimpArgs false
set_option maxHeartbeats 4000000 in
set_option maxRecDepth 100000 in
theorem as_hit (k : Int) (t : Addr) (old : Value) (w : World) (hg : w.cell? ⟨0, 0, none⟩ = some (.iface 128 (.agg #[.pointer (some ⟨7, 29, none⟩)]))) (ht0 : w.cell? t = some old) (hf0 : w.frozen? t = false) :
    Calls Tryz.prog 21 #[.iface 33 (.int .i64 k), .iface 53 (.pointer (some t))] w fun ev w' => ev = .returned (.bool true) ∧ w' = ((((w.alloc (.cells #[.pointer (some t)] 53)).alloc (.cells #[.pointer (some ⟨7, 53, none⟩), .pointer (some ⟨w.heap.size, 0, none⟩), .int .u64 150] 92)).alloc (.cells #[.pointer (some ⟨7, 53, none⟩), .pointer (some ⟨w.heap.size, 0, none⟩), .int .u64 150] 92)).alloc (.cells #[.int .i64 k] 33)).setCell t (.int .i64 k) := by
  have h33 := @run_callFunc_extern Tryz.prog 42 _ (fun args => ReflectliteValue.unpack (args.getD 0 (.tuple #[]))) Tryz.func42 (by kernel_rfl) (by kernel_rfl) (by kernel_rfl) (by kernel_rfl)
  have h34 := @run_callFunc_extern Tryz.prog 43 _ (ReflectliteValue.methodAny (ReflectliteValue.valueError "reflectlite.Value.Type" 0) (fun t _ _ _ => ReflectliteType.toType t)) Tryz.func43 (by kernel_rfl) (by kernel_rfl) (by kernel_rfl) (by kernel_rfl)
  have h35 := @run_callFunc_extern Tryz.prog 44 _ (ReflectliteValue.method (ReflectliteValue.valueError "reflectlite.Value.IsNil" 0) ReflectliteValue.isNil) Tryz.func44 (by kernel_rfl) (by kernel_rfl) (by kernel_rfl) (by kernel_rfl)
  have h97 := @run_callFunc_extern Tryz.prog 129 _ (ReflectliteType.abiMethod fun t => do pure (.int .u8 (← Rtype.kind t))) Tryz.func129 (by kernel_rfl) (by kernel_rfl) (by kernel_rfl) (by kernel_rfl)
  have h107 := @run_callFunc_extern Tryz.prog 140 _ (ReflectliteType.method ReflectliteType.elem) Tryz.func140 (by kernel_rfl) (by kernel_rfl) (by kernel_rfl) (by kernel_rfl)
  have h108 := @run_callFunc_extern Tryz.prog 141 _ (ReflectliteType.relation "Implements" ReflectliteType.implements_) Tryz.func141 (by kernel_rfl) (by kernel_rfl) (by kernel_rfl) (by kernel_rfl)
  have h62 := @run_callFunc_extern Tryz.prog 66 _ ReflectliteType.typeOf Tryz.func66 (by kernel_rfl) (by kernel_rfl) (by kernel_rfl) (by kernel_rfl)
  have h105 := @run_callFunc_extern Tryz.prog 138 _ (ReflectliteType.relation "AssignableTo" ReflectliteType.assignableTo) Tryz.func138 (by kernel_rfl) (by kernel_rfl) (by kernel_rfl) (by kernel_rfl)
  have h63 := @run_callFunc_extern Tryz.prog 67 _ (ReflectliteValue.method (ReflectliteValue.valueError "reflectlite.Value.Elem" 0) ReflectliteValue.elem) Tryz.func67 (by kernel_rfl) (by kernel_rfl) (by kernel_rfl) (by kernel_rfl)
  have h64 := @run_callFunc_extern Tryz.prog 68 _ ReflectliteValue.set Tryz.func68 (by kernel_rfl) (by kernel_rfl) (by kernel_rfl) (by kernel_rfl)
  have tO := typeOf32
  have mA := methodAssignableTo
  have a32 := assignable32
  have v32 := valueOf32
  have f6 := valueOf45
  have f7 := type45
  have mK := methodKind
  have mE := methodElem
  have mI := methodImplements
  have k45 := kind45
  have k32 := kind32
  have e45 := elem45
  have i32 := implements32
  have n8 := isNil45 ⟨w.heap.size, 0, none⟩ t ((w.alloc (.cells #[.pointer (some t)] 53)).alloc (.cells #[.pointer (some ⟨7, 53, none⟩), .pointer (some ⟨w.heap.size, 0, none⟩), .int .u64 150] 92)) (by simp)
  have hlt : 0 < w.heap.size := by
    rcases Nat.lt_or_ge 0 w.heap.size with h | h
    · exact h
    · simp [World.cell?, Array.getElem?_eq_none h] at hg
  have hg2 : ((w.alloc (.cells #[.pointer (some t)] 53)).alloc (.cells #[.pointer (some ⟨7, 53, none⟩), .pointer (some ⟨w.heap.size, 0, none⟩), .int .u64 150] 92)).cell? ⟨0, 0, none⟩ = some (.iface 128 (.agg #[.pointer (some ⟨7, 29, none⟩)])) := by
    rw [World.cell?_alloc_lt _ _ ⟨0, 0, none⟩ (by simp), World.cell?_alloc_lt _ _ ⟨0, 0, none⟩ hlt]; exact hg
  have htl : t.block < w.heap.size := by
    rcases Nat.lt_or_ge t.block w.heap.size with h | h
    · exact h
    · simp [World.cell?, Array.getElem?_eq_none h] at ht0
  have el := elemV45 ⟨w.heap.size, 0, none⟩ t (((w.alloc (.cells #[.pointer (some t)] 53)).alloc (.cells #[.pointer (some ⟨7, 53, none⟩), .pointer (some ⟨w.heap.size, 0, none⟩), .int .u64 150] 92)).alloc (.cells #[.pointer (some ⟨7, 53, none⟩), .pointer (some ⟨w.heap.size, 0, none⟩), .int .u64 150] 92)) (by rw [World.cell?_alloc_lt _ _ ⟨w.heap.size, 0, none⟩ (by simp; omega)]; simp)
  have st := set32 t ⟨w.heap.size + 1 + 1 + 1, 0, none⟩ k old ((((w.alloc (.cells #[.pointer (some t)] 53)).alloc (.cells #[.pointer (some ⟨7, 53, none⟩), .pointer (some ⟨w.heap.size, 0, none⟩), .int .u64 150] 92)).alloc (.cells #[.pointer (some ⟨7, 53, none⟩), .pointer (some ⟨w.heap.size, 0, none⟩), .int .u64 150] 92)).alloc (.cells #[.int .i64 k] 33))
    (by rw [World.cell?_alloc_at _ _ _ _ (by simp)]; rfl)
    (by rw [World.cell?_alloc_lt _ _ t (by simp; omega), World.cell?_alloc_lt _ _ t (by simp; omega), World.cell?_alloc_lt _ _ t (by simp; omega), World.cell?_alloc_lt _ _ t htl]; exact ht0)
    (by rw [World.frozen?_alloc_old _ _ t (by simp; omega), World.frozen?_alloc_old _ _ t (by simp; omega), World.frozen?_alloc_old _ _ t (by simp; omega), World.frozen?_alloc_old _ _ t (Nat.ne_of_lt htl)]; exact hf0)
  go_enter Tryz.func21, Tryz.ntmps21
  go_wp2
  refine wp_loop_rounds 1 ?_
  rw [rounds_succ]
  go_wp2
  go_ret
  exact ⟨rfl, rfl⟩
theorem tell_errno (k : Int) (w : World) (hg : w.cell? ⟨0, 0, none⟩ = some (.iface 128 (.agg #[.pointer (some ⟨7, 29, none⟩)]))) :
    Calls Tryz.prog 10 #[.iface 33 (.int .i64 k)] w fun e w' => e = .returned (.int .i64 k) ∧ Below w.heap.size w w' := by
  have hlt : 0 < w.heap.size := by
    rcases Nat.lt_or_ge 0 w.heap.size with h | h
    · exact h
    · simp [World.cell?, Array.getElem?_eq_none h] at hg
  have hg2 : (w.alloc (.cells #[.int .i64 0] 33)).cell? ⟨0, 0, none⟩ = some (.iface 128 (.agg #[.pointer (some ⟨7, 29, none⟩)])) := by
    rw [World.cell?_alloc_lt _ _ ⟨0, 0, none⟩ hlt]; exact hg
  go_enter Tryz.func10, Tryz.ntmps10
  go_wp2_with (go_at_call 21; refine (as_hit k ⟨w.heap.size, 0, none⟩ (.int .i64 0) _ hg2 (by simp) (by simp [go_sem])).mono ?_; rintro e w' ⟨rfl, rfl⟩)
  go_ret
  exact ⟨rfl, (((((Below.refl _ w).alloc (Nat.le_refl _) _).alloc (by simp) _).alloc (by simp; omega) _).alloc (by simp; omega) _).alloc (by simp; omega) _⟩
end Go.Proofs.YtmpjapcijjjlbaaGreatDoor
namespace Go.Proofs.YtmpjapcijjjlbaaGreatDoor
open Go.RowKit
set_option linter.unusedVariables false
set_option linter.unusedSimpArgs false
def IsTrue (w : World) : Ending → World → Prop := fun e w' => e = .returned (.bool true) ∧ Below w.heap.size w w'
end Go.Proofs.YtmpjapcijjjlbaaGreatDoor
namespace Go.Proofs.YtmpjapcijjjlbaaGreatDoor
open Go.RowKit
set_option linter.unusedVariables false
set_option linter.unusedSimpArgs false
def PostAq (s p : Str) (w : World) (G : Nat) (e : Ending) (w' : World) : Prop :=
  Below G w w' ∧ ∃ l, Rd p l ∧ ((Good p l ∧ ∃ M, chP (lns s) (stl 0 l) = some M ∧ arL M ∧ ∃ y yc, e = .returned (.tuple #[.slice y M.flatten.length yc, .nilIface]) ∧ PB w' y yc M.flatten ∧ ∀ q : Addr, y = some q → G ≤ q.block)
    ∨ (Good p l ∧ (∀ M, chP (lns s) (stl 0 l) = some M → ¬ arL M) ∧ e = .returned (.tuple #[.slice none 0 0, .iface 33 (.int .i64 91)]))
    ∨ (¬ Good p l ∧ e = .returned (.tuple #[.slice none 0 0, .iface 33 (.int .i64 90)])))
set_option maxRecDepth 20000 in
set_option maxHeartbeats 2000000 in
theorem apply_at {w : World} (a : Option Addr) (ca : Nat) (s : Str) (hA : PB w a ca s) (hs : s.length ≤ 1000000) (b : Option Addr) (cb : Nat) (p : Str) (hB : PB w b cb p) (hp : p.length ≤ 1000000) (he : Ers w) (hm : Mx w) (ht : Tab w) :
    Calls Tryz.prog 8 #[.slice a s.length ca, .slice b p.length cb] w (PostAq s p w w.heap.size) := by
  obtain ⟨n, HN⟩ : ∃ n, Hid (s.length = n) := ⟨_, rfl⟩
  obtain ⟨m, HM⟩ : ∃ n, Hid (p.length = n) := ⟨_, rfl⟩
  obtain ⟨G, HG⟩ : ∃ n, Hid (w.heap.size = n) := ⟨_, rfl⟩
  have C18 : Hid (Calls Tryz.prog 18 #[.slice b m cb] w (PostRp p w G)) := hid (by rw [← HM.out, ← HG.out]; exact readPatch_any b cb p hB hp he hm ht)
  have HPA : Hid (∀ W, Below G w W → PB W a ca s) := hid (fun W hW => hA.below (by rw [HG.out]; exact hW))
  have HSL := hid hs
  have HPL := hid hp
  rw [HN.out, HM.out, HG.out]
  clear hA hB hs hp he hm ht
  go_enter Tryz.func8, Tryz.ntmps8
  go_wp2_with fail
  refine C18.out.mono ?_
  rintro e w1 ⟨hb1, l, hrd, ⟨hg, ha, hc, rfl, hpg, hpe⟩ | ⟨hg, rfl⟩⟩
  · have HGD : Hid (Good p l) := hid hg
    have HRD := hid hrd
    have HB1 := hid hb1
    obtain ⟨k, HK⟩ : ∃ n, Hid (l.length = n) := ⟨_, rfl⟩
    obtain ⟨l2, HL2⟩ : ∃ q, Hid (stl 0 l = q) := ⟨_, rfl⟩
    have HLN : Hid (l2.length = k) := hid (by rw [← HL2.out, ← HK.out]; exact stl_len l 0)
    have HNK : Hid (NOk l2) := hid (by rw [← HL2.out]; exact rgt_nok (stl_iok hrd.2.1 hrd.2.2.1 hrd.2.2.2) hg.1)
    have HCT : Hid (ctG l2 ≤ 1000000) := hid (by
      rw [← HL2.out, ctG_stl]
      have h1 := ctG_le l
      rw [hrd.1] at h1
      have h2 := (rdH_wt p).2
      have := HPL.out
      omega)
    have HRG : Hid (Rgt l2) := hid (by rw [← HL2.out]; exact hg.1)
    rw [HL2.out] at hpg hpe
    have HPG : Hid (∀ W, Below w1.heap.size w1 W → PG W ha hc l2) := hid (fun W hW => hpg.below hW)
    have HPE : Hid (∀ W, Below w1.heap.size w1 W → ∀ y ∈ l2, PE W y.2.2.1 y.2.2.2.1 y.2.2.2.2) := hid (fun W hW y hy => (hpe y hy).below hW)
    have HKL : Hid (l2.length ≤ 1000000) := hid (by rw [HLN.out, ← HK.out]; exact hrd.2.2.2)
    have C15 : Hid (Calls Tryz.prog 15 #[.slice a n ca] w1 (PostS (lns s) w1)) := hid (by rw [← HN.out]; exact lines_any a ca s (HPA.out w1 hb1) HSL.out)
    rw [HK.out]
    clear hg hrd hb1 hpg hpe
    go_wp2_with fail
    refine C15.out.mono ?_
    rintro e w2 ⟨v, rfl, hbs⟩
    obtain ⟨X, HX⟩ : ∃ X, Hid (lns s = X) := ⟨_, rfl⟩
    rw [HX.out] at hbs
    obtain ⟨xa, xc, rfl, hps, _⟩ := hbs.px (d := []) (fun x _ => encS_len x)
    obtain ⟨q, HQ⟩ : ∃ q, Hid (X.length = q) := ⟨_, rfl⟩
    have HXN : Hid (X.length ≤ 1000000) := hid (by rw [← HX.out]; have := lns_few s; have := HSL.out; omega)
    have HXS : Hid (Sht X) := hid (fun x hx => by rw [← HX.out] at hx; have := lns_short s x hx; have := HSL.out; omega)
    have HB2 : Hid (Below G w w2) := hid (HB1.out.trans (hbs.below.mono (by have := HB1.out.size; rw [HG.out] at this; exact this)))
    have C19 : Hid (Calls Tryz.prog 19 #[.slice xa q xc, .slice ha k hc] w2 (PostCh X l2 w2 w2.heap.size)) := hid (by
      rw [← HQ.out, ← HLN.out]
      exact change_any xa xc X hps HXN.out HXS.out ha hc l2 (HPG.out w2 hbs.below) (HPE.out w2 hbs.below) HNK.out HRG.out HKL.out HCT.out)
    have HG2 : Hid (G ≤ w2.heap.size) := hid (by have := HB2.out.size; rw [HG.out] at this; exact this)
    rw [HQ.out]
    clear hbs hps
    go_wp2_with fail
    refine C19.out.mono ?_
    rintro e w3 ⟨hb3, ⟨M, v3, hch, har, hsh, hml, rfl, hbm⟩ | ⟨hno, rfl⟩⟩
    · obtain ⟨ma, mc, rfl, hpm, _⟩ := hbm.px (d := []) (fun x _ => encS_len x)
      have HB3 : Hid (Below G w w3) := hid (HB2.out.trans (hb3.mono HG2.out))
      have HG3 : Hid (G ≤ w3.heap.size) := hid (by have := HB3.out.size; rw [HG.out] at this; exact this)
      have HCH : Hid (chP (lns s) (stl 0 l) = some M) := hid (by rw [HX.out, HL2.out]; exact hch)
      have HAR := hid har
      obtain ⟨mn, HMN⟩ : ∃ q, Hid (M.length = q) := ⟨_, rfl⟩
      obtain ⟨F, HF⟩ : ∃ q, Hid (M.flatten = q) := ⟨_, rfl⟩
      have C20 : Hid (Calls Tryz.prog 20 #[.slice ma mn mc, .string ⟨#[]⟩] w3 fun e w' => e = .returned (.string ⟨F.toArray⟩) ∧ Below w3.heap.size w3 w') := hid (by
        rw [← HMN.out, ← HF.out]
        exact join_any ma mc M hpm hml hsh)
      rw [HMN.out]
      clear hbm hb3 hpm hch har hsh hml
      go_wp2_with fail
      refine C20.out.mono ?_
      rintro e w4 ⟨rfl, hb4⟩
      have HB4 : Hid (Below G w w4) := hid (HB3.out.trans (hb4.mono HG3.out))
      have HG4 : Hid (G ≤ w4.heap.size) := hid (by have := HB4.out.size; rw [HG.out] at this; exact this)
      obtain ⟨yc, w5, hrun, hpb, hb5⟩ := conv_bytes F w4
      have HB5 : Hid (Below G w w5) := hid (HB4.out.trans (hb5.mono (by have := HB4.out.size; rw [HG.out] at this; exact this)))
      have HPB := hid hpb
      have HFL : Hid (Below G w w5) := HB5
      clear hb4 hb5 hpb
      go_wp2
      refine bodyPost_ret (results_tmp2 Tryz.results8 _ _ _) rfl ?_
      refine ⟨HFL.out, l, HRD.out, .inl ⟨HGD.out, M, HCH.out, HAR.out, ?_⟩⟩
      rw [HF.out]
      exact ⟨_, _, rfl, HPB.out, fun q e => by cases e; exact HG4.out⟩
    · have HB3 : Hid (Below G w w3) := hid (HB2.out.trans (hb3.mono HG2.out))
      have HNO : Hid (∀ M, chP (lns s) (stl 0 l) = some M → ¬ arL M) := hid (by rw [HX.out, HL2.out]; exact hno)
      clear hb3 hno
      go_wp2
      refine bodyPost_ret (results_tmp2 Tryz.results8 _ _ _) rfl ?_
      exact ⟨HB3.out, l, HRD.out, .inr (.inl ⟨HGD.out, HNO.out, rfl⟩)⟩
  · have HNG : Hid (¬ Good p l) := hid hg
    have HRD := hid hrd
    have HB1 : Hid (Below G w w1) := hid hb1
    clear hg hrd hb1
    go_wp2
    refine bodyPost_ret (results_tmp2 Tryz.results8 _ _ _) rfl ?_
    exact ⟨HB1.out, l, HRD.out, .inr (.inr ⟨HNG.out, rfl⟩)⟩
theorem apH_prj (X : List Str) (s : As) {y z : Gh} (h : prj y = prj z) : apH X s y = apH X s z := by
  have h1 : y.1 = z.1 := congrArg (·.1) h
  have h2 : y.2.2.2.2 = z.2.2.2.2 := congrArg (·.2.2) h
  unfold apH
  rw [h1, h2]
theorem apL_prj (X : List Str) : ∀ (l m : List Gh) (s : As), l.map prj = m.map prj → apL X l s = apL X m s
  | [], [], s, _ => rfl
  | [], _ :: _, s, h => by cases h
  | _ :: _, [], s, h => by cases h
  | y :: l, z :: m, s, h => by
    simp only [List.map_cons, List.cons.injEq] at h
    rw [apL, apL, apH_prj X s h.1]
    cases apH X s z with
    | none => rfl
    | some t => exact apL_prj X l m t h.2
theorem chP_prj (X : List Str) {l m : List Gh} (h : l.map prj = m.map prj) : chP X l = chP X m := by
  unfold chP
  rw [apL_prj X l m _ h]
theorem walkA_one (a b : Option Addr) (n ca m cb : Nat) (w : World) (h : 4000 < n) : Calls Tryz.prog 4 #[.slice a n ca, .slice b m cb] w (IsTrue w) := by
  have hi : (4000 : Int) < (n : Int) := by omega
  have HB : Hid (Below w.heap.size w w) := Below.refl _ _
  go_enter Tryz.func4, Tryz.ntmps4
  go_wp2
  go_ret
  exact ⟨rfl, HB.out⟩
theorem walkA_two (a b : Option Addr) (n ca m cb : Nat) (w : World) (h0 : ¬ 4000 < n) (h : 4000 < m) : Calls Tryz.prog 4 #[.slice a n ca, .slice b m cb] w (IsTrue w) := by
  have hj : ¬ (4000 : Int) < (n : Int) := by omega
  have hi : (4000 : Int) < (m : Int) := by omega
  have HB : Hid (Below w.heap.size w w) := Below.refl _ _
  go_enter Tryz.func4, Tryz.ntmps4
  go_wp2
  go_ret
  exact ⟨rfl, HB.out⟩
def Hnd (w : World) : Prop := w.cell? ⟨0, 0, none⟩ = some (.iface 128 (.agg #[.pointer (some ⟨7, 29, none⟩)]))
theorem Hnd.below {w w' : World} (h : Hnd w) (hb : Below w.heap.size w w') : Hnd w' := by
  unfold Hnd at h ⊢
  have h0 : 0 < w.heap.size := by
    rcases Nat.lt_or_ge 0 w.heap.size with h' | h'
    · exact h'
    · simp [World.cell?, Array.getElem?_eq_none h'] at h
  have e := hb.block 0 h0
  simp only [World.cell?, e] at h ⊢
  exact h
theorem Px.gr {α : Type} {enc : α → List Value} {k : Nat} {d : α} {w w' : World} {a : Option Addr} {cap K : Nat} {l : List α} (h : Px enc k d w a cap l) (hK : ∀ p : Addr, a = some p → p.block ≠ K) (hg : w.grownBy w' (some K)) : Px enc k d w' a cap l := h.grown hK hg
theorem grown_refl (w : World) : w.grownBy w none := ⟨rfl, rfl, rfl, Nat.le_refl _, fun _ _ _ => rfl⟩
theorem stillQ {w : World} (a : Option Addr) (cap g : Nat) (s : Str) (hl : s.length ≤ 4000) (hr : Room w g (nums s)) (hP : PB w a cap s) (hg : ∀ p : Addr, a = some p → 0 < s.length → p.block < g) :
    Calls Tryz.prog 12 #[.slice (some ⟨g, 0, none⟩) s.length (s.length + 2), .slice a s.length cap] w fun e w' => e = .returned (.bool true) ∧ w.grownBy w' (some g) := by
  have := still_keep a cap g (nums s) w (by rw [nums_len]; omega) (nums_b s) hr (fun h => by
    rw [nums_len] at h
    obtain ⟨b, off, e1, _⟩ := hP.at_ h
    subst e1
    exact ⟨b, off, rfl, hg _ rfl h, pb_at hP⟩)
  rw [nums_len] at this
  exact this
set_option maxRecDepth 20000 in
set_option maxHeartbeats 4000000 in
theorem walkA {w : World} (a : Option Addr) (ca : Nat) (s : Str) (hA : PB w a ca s) (hs : s.length ≤ 4000) (b : Option Addr) (cb : Nat) (p : Str) (hB : PB w b cb p) (hp : p.length ≤ 4000) (he : Ers w) (hm : Mx w) (hT : Tab w) (hH : Hnd w) :
    Calls Tryz.prog 4 #[.slice a s.length ca, .slice b p.length cb] w (IsTrue w) := by
  obtain ⟨n, HN⟩ : ∃ n, Hid (s.length = n) := ⟨_, rfl⟩
  obtain ⟨m, HM⟩ : ∃ n, Hid (p.length = n) := ⟨_, rfl⟩
  obtain ⟨G, HG⟩ : ∃ g, Hid (w.heap.size = g) := ⟨_, rfl⟩
  have hI : ¬ (4000 : Int) < (n : Int) := by have := HN.out; omega
  have hJ : ¬ (4000 : Int) < (m : Int) := by have := HM.out; omega
  have HSL := hid hs
  have HPL := hid hp
  have HPA : Hid (∀ W, Below G w W → PB W a ca s) := hid (fun W hW => hA.below (by rw [HG.out]; exact hW))
  have HPB : Hid (∀ W, Below G w W → PB W b cb p) := hid (fun W hW => hB.below (by rw [HG.out]; exact hW))
  have HTB : Hid (∀ W, Below G w W → Tab W) := hid (fun W hW => hT.below (by rw [HG.out]; exact hW))
  have HER : Hid (∀ W, Below G w W → Ers W) := hid (fun W hW => he.below (by rw [HG.out]; exact hW))
  have HMX : Hid (∀ W, Below G w W → Mx W) := hid (fun W hW => hm.below (by rw [HG.out]; exact hW))
  have HHN : Hid (∀ W, Below G w W → Hnd W) := hid (fun W hW => hH.below (by rw [HG.out]; exact hW))
  have HGS : Hid (∀ W, Below G w W → G ≤ W.heap.size) := hid (fun W hW => by have := hW.size; have := HG.out; omega)
  have HAB : Hid (∀ q : Addr, a = some q → 0 < s.length → q.block < G) := hid (fun q e h0 => by
    obtain ⟨b', off, e1, e2, _⟩ := hA.at_ h0
    rw [e] at e1
    cases e1
    rw [← HG.out]
    exact e2)
  have HBB : Hid (∀ q : Addr, b = some q → 0 < p.length → q.block < G) := hid (fun q e h0 => by
    obtain ⟨b', off, e1, e2, _⟩ := hB.at_ h0
    rw [e] at e1
    cases e1
    rw [← HG.out]
    exact e2)
  have C1 : Hid (Calls Tryz.prog 11 #[.slice a n ca] w fun e w' => e = .returned (.slice (some ⟨G, 0, none⟩) n (n + 2 : Nat)) ∧ Below G w w' ∧ Room w' G (nums s)) := hid (by
    have := roomyP a ca s hA hs
    rw [HN.out, HG.out] at this
    exact this)
  rw [HN.out, HM.out]
  unfold IsTrue
  rw [HG.out]
  clear hA hB hs hp he hm hT hH
  go_enter Tryz.func4, Tryz.ntmps4
  go_wp2_with fail
  refine C1.out.mono ?_
  rintro e w1 ⟨rfl, hb1, hr1⟩
  have HB1 := hid hb1
  have HR1 := hid hr1
  obtain ⟨G1, HG1⟩ : ∃ g, Hid (w1.heap.size = g) := ⟨_, rfl⟩
  have hGG : G < G1 := by rw [← HG1.out]; exact hr1.lt
  have C2 : Hid (Calls Tryz.prog 11 #[.slice b m cb] w1 fun e w' => e = .returned (.slice (some ⟨G1, 0, none⟩) m (m + 2 : Nat)) ∧ Below G1 w1 w' ∧ Room w' G1 (nums p)) := hid (by
    have := roomyP b cb p (HPB.out w1 hb1) HPL.out
    rw [HM.out, HG1.out] at this
    exact this)
  clear hb1 hr1
  go_wp2_with fail
  refine C2.out.mono ?_
  rintro e w2 ⟨rfl, hb2, hr2⟩
  have HB2 : Hid (Below G w w2) := hid (HB1.out.trans (hb2.mono (by omega)))
  have HR2 : Hid (Room w2 G (nums s)) := hid (HR1.out.kept (hb2.block G hGG))
  have HQ2 := hid hr2
  obtain ⟨G2, HG2⟩ : ∃ g, Hid (w2.heap.size = g) := ⟨_, rfl⟩
  have hG12 : G1 < G2 := by rw [← HG2.out]; exact hr2.lt
  have C3 : Hid (Calls Tryz.prog 8 #[.slice (some ⟨G, 0, none⟩) n (n + 2 : Nat), .slice (some ⟨G1, 0, none⟩) m (m + 2 : Nat)] w2 (PostAq s p w2 G2)) := hid (by
    have := apply_at (some ⟨G, 0, none⟩) (s.length + 2) s (room_pb HR2.out) (by have := HSL.out; omega) (some ⟨G1, 0, none⟩) (p.length + 2) p (room_pb HQ2.out) (by have := HPL.out; omega) (HER.out w2 HB2.out) (HMX.out w2 HB2.out) (HTB.out w2 HB2.out)
    rw [HN.out, HM.out, HG2.out] at this
    exact this)
  clear hb2 hr2
  go_wp2_with fail
  refine C3.out.mono ?_
  rintro e w3 ⟨hb3, l, hrd, hpost⟩
  have HB3 : Hid (Below G w w3) := hid (HB2.out.trans (hb3.mono (by omega)))
  have HR3 : Hid (Room w3 G (nums s)) := hid (HR2.out.kept (hb3.block G (by omega)))
  have HQ3 : Hid (Room w3 G1 (nums p)) := hid (HQ2.out.kept (hb3.block G1 (by omega)))
  have HRD := hid hrd
  have HPX : ∃ (xs : Str) (x : Option Addr) (xc : Nat) (ev : Value), e = .returned (.tuple #[.slice x xs.length xc, ev]) ∧ PB w3 x xc xs ∧ (∀ q : Addr, x = some q → G2 ≤ q.block) ∧ ((Good p l ∧ ∃ M, chP (lns s) (stl 0 l) = some M ∧ arL M ∧ xs = M.flatten ∧ ev = .nilIface) ∨ (Good p l ∧ (∀ M, chP (lns s) (stl 0 l) = some M → ¬ arL M) ∧ xs = [] ∧ ev = .iface 33 (.int .i64 91)) ∨ (¬ Good p l ∧ xs = [] ∧ ev = .iface 33 (.int .i64 90))) := by
    rcases hpost with ⟨hg, M, hc, har, y, yc, rfl, hpb, hloc⟩ | ⟨hg, hno, rfl⟩ | ⟨hg, rfl⟩
    · exact ⟨M.flatten, y, yc, _, rfl, hpb, hloc, .inl ⟨hg, M, hc, har, rfl, rfl⟩⟩
    · exact ⟨[], none, 0, _, rfl, ⟨Nat.le_refl _, fun h => absurd h (by simp), fun _ => rfl⟩, (fun q h => by cases h), .inr (.inl ⟨hg, hno, rfl, rfl⟩)⟩
    · exact ⟨[], none, 0, _, rfl, ⟨Nat.le_refl _, fun h => absurd h (by simp), fun _ => rfl⟩, (fun q h => by cases h), .inr (.inr ⟨hg, rfl, rfl⟩)⟩
  obtain ⟨xs, x, xc, ev, rfl, hpx, hloc, hcase⟩ := HPX
  have HPX3 := hid hpx
  have HLOC := hid hloc
  have HCASE := hid hcase
  obtain ⟨xn, HXN⟩ : ∃ n, Hid (xs.length = n) := ⟨_, rfl⟩
  rw [HXN.out]
  have C4 : Hid (Calls Tryz.prog 12 #[.slice (some ⟨G, 0, none⟩) n (n + 2 : Nat), .slice a n ca] w3 fun e w' => e = .returned (.bool true) ∧ w3.grownBy w' (some G)) := hid (by
    have := stillQ a ca G s HSL.out HR3.out (HPA.out w3 HB3.out) HAB.out
    rw [HN.out] at this
    exact this)
  clear hb3 hrd hpost hpx hloc hcase
  go_wp2_with fail
  refine C4.out.mono ?_
  rintro e w4 ⟨rfl, hg4⟩
  have HB4 : Hid (Below G w w4) := hid (below_step HB3.out (by rw [HG.out]; exact Nat.le_refl _) (grown_refl w3) hg4 (fun k hk => by cases hk; exact Nat.le_refl _))
  have HQ4 : Hid (Room w4 G1 (nums p)) := hid (HQ3.out.kept (hg4.block G1 HQ3.out.lt (by simp; omega)))
  have HPX4 : Hid (PB w4 x xc xs) := hid (HPX3.out.gr (fun q e => by have := HLOC.out q e; omega) hg4)
  have C5 : Hid (Calls Tryz.prog 12 #[.slice (some ⟨G1, 0, none⟩) m (m + 2 : Nat), .slice b m cb] w4 fun e w' => e = .returned (.bool true) ∧ w4.grownBy w' (some G1)) := hid (by
    have := stillQ b cb G1 p HPL.out HQ4.out (HPB.out w4 HB4.out) (fun q e h => by have := HBB.out q e h; omega)
    rw [HM.out] at this
    exact this)
  clear hg4
  go_wp2_with fail
  refine C5.out.mono ?_
  rintro e w5 ⟨rfl, hg5⟩
  have HB5 : Hid (Below G w w5) := hid (below_step HB4.out (by rw [HG.out]; exact Nat.le_refl _) (grown_refl w4) hg5 (fun k hk => by cases hk; omega))
  have HPX5 : Hid (PB w5 x xc xs) := hid (HPX4.out.gr (fun q e => by have := HLOC.out q e; omega) hg5)
  have C6 : Hid (Calls Tryz.prog 13 #[.slice a n ca, .slice b m cb] w5 (PostDA s p w5 w5.heap.size)) := hid (by
    have := refApply_any a ca s (HPA.out w5 HB5.out) HSL.out b cb p (HPB.out w5 HB5.out) HPL.out
    rw [HN.out, HM.out] at this
    exact this)
  clear hg5
  go_wp2_with fail
  refine C6.out.mono ?_
  rintro e w6 ⟨hb6, hpost⟩
  have HB6 : Hid (Below G w w6) := hid (HB5.out.trans (hb6.mono (HGS.out w5 HB5.out)))
  have HPX6 : Hid (PB w6 x xc xs) := hid (HPX5.out.below hb6)
  have HTOLD : ∃ (y : Option Addr) (yc : Nat) (f : Int), e = .returned (.tuple #[.slice y xn yc, .int .i64 f]) ∧ PB w6 y yc xs ∧ xs.length ≤ 1000000000000 ∧ ((ev = .nilIface ∧ f = 0) ∨ ev = .iface 33 (.int .i64 f)) := by
    have hk := hk_good p l HRD.out
    have hX : hkX 0 0 p = hkL p.length 0 0 p := rfl
    rw [← hX] at hk
    rcases HCASE.out with ⟨hg, M, hc, har, rfl, rfl⟩ | ⟨hg, hno, rfl, rfl⟩ | ⟨hg, rfl, rfl⟩
    · rcases hpost with ⟨hn, _⟩ | ⟨l2, hs2, h2⟩
      · rw [hk.2 hg] at hn
        cases hn
      · have e2 := chP_prj (lns s) (hk.1 _ hs2).2
        rw [hc] at e2
        rcases h2 with ⟨M2, hc2, _, hml, y, yc, rfl, hpb⟩ | ⟨hno, _⟩
        · rw [← e2] at hc2
          cases hc2
          exact ⟨y, yc, 0, by rw [HXN.out], hpb, hml, .inl ⟨rfl, rfl⟩⟩
        · exact absurd har (hno M e2.symm)
    · rcases hpost with ⟨hn, _⟩ | ⟨l2, hs2, h2⟩
      · rw [hk.2 hg] at hn
        cases hn
      · have e2 := chP_prj (lns s) (hk.1 _ hs2).2
        rcases h2 with ⟨M2, hc2, har, _⟩ | ⟨_, rfl⟩
        · rw [← e2] at hc2
          exact absurd har (hno M2 hc2)
        · exact ⟨none, 0, 91, by rw [← HXN.out]; rfl, ⟨Nat.le_refl _, fun h => absurd h (by simp), fun _ => rfl⟩, by simp, .inr rfl⟩
    · rcases hpost with ⟨_, rfl⟩ | ⟨l2, hs2, _⟩
      · exact ⟨none, 0, 90, by rw [← HXN.out]; rfl, ⟨Nat.le_refl _, fun h => absurd h (by simp), fun _ => rfl⟩, by simp, .inr rfl⟩
      · exact absurd (hk.1 _ hs2).1 hg
  obtain ⟨y, yc, f, rfl, hpy, hxl, htell⟩ := HTOLD
  have C7 : Hid (Calls Tryz.prog 9 #[.slice x xn xc, .slice y xn yc] w6 fun e w' => e = .returned (.bool true) ∧ ∃ n, w' = w6.drewN n) := hid (by
    have := same_pb x xc y yc xs HPX6.out hpy hxl
    rw [HXN.out] at this
    exact this)
  have HTELL := hid htell
  clear hb6 hpost hpy hxl htell
  go_wp2_with fail
  refine C7.out.mono ?_
  rintro e w7 ⟨rfl, k7, rfl⟩
  have HB7 : Hid (Below G w (w6.drewN k7)) := hid (below_drewH HB6.out k7)
  generalize w6.drewN k7 = w7 at HB7 ⊢
  have C8 : Hid (Calls Tryz.prog 10 #[ev] w7 fun e w' => e = .returned (.int .i64 f) ∧ Below w7.heap.size w7 w') := hid (by
    rcases HTELL.out with ⟨rfl, rfl⟩ | rfl
    · exact tell_nil w7
    · exact tell_errno f w7 (HHN.out w7 HB7.out))
  clear HTELL HCASE
  go_wp2_with fail
  refine C8.out.mono ?_
  rintro e w8 ⟨rfl, hb8⟩
  have HB8 : Hid (Below G w w8) := hid (HB7.out.trans (hb8.mono (HGS.out w7 HB7.out)))
  clear hb8
  go_wp2_with fail
  go_ret
  exact ⟨rfl, HB8.out⟩
end Go.Proofs.YtmpjapcijjjlbaaGreatDoor
