import Derived.Test.YtbpdielmdhhdfaaGreatDoorMu11
import Derived.Deep.AppendLies
import Derived.Deep.LoopGhost
import Derived.Deep.RegionWith
import Derived.Deep.QuietTactic
import Derived.BigQuiet
import Derived.WalkLawsBesides
import Derived.WalkSpells
import Derived.Laws.BitsAllLaws
import Derived.Laws.CopyOwn
import Derived.Laws.IdiomCopy
import Derived.Deep.RegionHeld3
import Derived.Deep.RegionLaw
import Derived.Deep.DrawnRows
import Derived.Deep.MidRow
import Derived.Laws.BytesArg
import Derived.Laws.Externs
/- 'errors.As' finds an Errno; 'Tell' of nil and of an Errno. -/
namespace Go.Proofs.YtbpdielmdhhdfaaGreatDoor
open Go.RowKit Go.Extern.Stop Go.Stop Go.Extern
set_option linter.unusedVariables false
set_option linter.unusedSimpArgs false

set_option maxHeartbeats 4000000 in
set_option maxRecDepth 100000 in
theorem as_hit (k : Int) (t : Addr) (old : Value) (w : World) (hg : w.cell? ⟨0, 0, none⟩ = some (.iface 188 (.agg #[.pointer (some ⟨9, 28, none⟩)]))) (ht0 : w.cell? t = some old) (hf0 : w.frozen? t = false) :
    Calls Tryz.prog 36 #[.iface 35 (.int .i64 k), .iface 87 (.pointer (some t))] w fun ev w' => ev = .returned (.bool true) ∧ w' = ((((w.alloc (.cells #[.pointer (some t)] 87)).alloc (.cells #[.pointer (some ⟨9, 87, none⟩), .pointer (some ⟨w.heap.size, 0, none⟩), .int .u64 150] 137)).alloc (.cells #[.pointer (some ⟨9, 87, none⟩), .pointer (some ⟨w.heap.size, 0, none⟩), .int .u64 150] 137)).alloc (.cells #[.int .i64 k] 35)).setCell t (.int .i64 k) := by
  have h33 := @run_callFunc_extern Tryz.prog 76 _ (fun args => ReflectliteValue.unpack (args.getD 0 (.tuple #[]))) Tryz.func76 (by kernel_rfl) (by kernel_rfl) (by kernel_rfl) (by kernel_rfl)
  have h34 := @run_callFunc_extern Tryz.prog 77 _ (ReflectliteValue.methodAny (ReflectliteValue.valueError "reflectlite.Value.Type" 0) (fun t _ _ _ => ReflectliteType.toType t)) Tryz.func77 (by kernel_rfl) (by kernel_rfl) (by kernel_rfl) (by kernel_rfl)
  have h35 := @run_callFunc_extern Tryz.prog 78 _ (ReflectliteValue.method (ReflectliteValue.valueError "reflectlite.Value.IsNil" 0) ReflectliteValue.isNil) Tryz.func78 (by kernel_rfl) (by kernel_rfl) (by kernel_rfl) (by kernel_rfl)
  have h97 := @run_callFunc_extern Tryz.prog 248 _ (ReflectliteType.abiMethod fun t => do pure (.int .u8 (← Rtype.kind t))) Tryz.func248 (by kernel_rfl) (by kernel_rfl) (by kernel_rfl) (by kernel_rfl)
  have h107 := @run_callFunc_extern Tryz.prog 258 _ (ReflectliteType.method ReflectliteType.elem) Tryz.func258 (by kernel_rfl) (by kernel_rfl) (by kernel_rfl) (by kernel_rfl)
  have h108 := @run_callFunc_extern Tryz.prog 259 _ (ReflectliteType.relation "Implements" ReflectliteType.implements_) Tryz.func259 (by kernel_rfl) (by kernel_rfl) (by kernel_rfl) (by kernel_rfl)
  have h62 := @run_callFunc_extern Tryz.prog 117 _ ReflectliteType.typeOf Tryz.func117 (by kernel_rfl) (by kernel_rfl) (by kernel_rfl) (by kernel_rfl)
  have h105 := @run_callFunc_extern Tryz.prog 256 _ (ReflectliteType.relation "AssignableTo" ReflectliteType.assignableTo) Tryz.func256 (by kernel_rfl) (by kernel_rfl) (by kernel_rfl) (by kernel_rfl)
  have h63 := @run_callFunc_extern Tryz.prog 118 _ (ReflectliteValue.method (ReflectliteValue.valueError "reflectlite.Value.Elem" 0) ReflectliteValue.elem) Tryz.func118 (by kernel_rfl) (by kernel_rfl) (by kernel_rfl) (by kernel_rfl)
  have h64 := @run_callFunc_extern Tryz.prog 119 _ ReflectliteValue.set Tryz.func119 (by kernel_rfl) (by kernel_rfl) (by kernel_rfl) (by kernel_rfl)
  have tO := typeOf32
  have mA := methodAssignableTo
  have a32 := assignable32
  have v32 := valueOf32
  have f6 := valueOf45
  have f7 := type45
  have mK := methodKind
  have mE := methodElem
  have mI := methodImplements
  have k45 := kind45
  have k32 := kind32
  have e45 := elem45
  have i32 := implements32
  have n8 := isNil45 ⟨w.heap.size, 0, none⟩ t ((w.alloc (.cells #[.pointer (some t)] 87)).alloc (.cells #[.pointer (some ⟨9, 87, none⟩), .pointer (some ⟨w.heap.size, 0, none⟩), .int .u64 150] 137)) (by simp)
  have hlt : 0 < w.heap.size := by
    rcases Nat.lt_or_ge 0 w.heap.size with h | h
    · exact h
    · simp [World.cell?, Array.getElem?_eq_none h] at hg
  have hg2 : ((w.alloc (.cells #[.pointer (some t)] 87)).alloc (.cells #[.pointer (some ⟨9, 87, none⟩), .pointer (some ⟨w.heap.size, 0, none⟩), .int .u64 150] 137)).cell? ⟨0, 0, none⟩ = some (.iface 188 (.agg #[.pointer (some ⟨9, 28, none⟩)])) := by
    rw [World.cell?_alloc_lt _ _ ⟨0, 0, none⟩ (by simp), World.cell?_alloc_lt _ _ ⟨0, 0, none⟩ hlt]; exact hg
  have htl : t.block < w.heap.size := by
    rcases Nat.lt_or_ge t.block w.heap.size with h | h
    · exact h
    · simp [World.cell?, Array.getElem?_eq_none h] at ht0
  have el := elemV45 ⟨w.heap.size, 0, none⟩ t (((w.alloc (.cells #[.pointer (some t)] 87)).alloc (.cells #[.pointer (some ⟨9, 87, none⟩), .pointer (some ⟨w.heap.size, 0, none⟩), .int .u64 150] 137)).alloc (.cells #[.pointer (some ⟨9, 87, none⟩), .pointer (some ⟨w.heap.size, 0, none⟩), .int .u64 150] 137)) (by rw [World.cell?_alloc_lt _ _ ⟨w.heap.size, 0, none⟩ (by simp; omega)]; simp)
  have st := set32 t ⟨w.heap.size + 1 + 1 + 1, 0, none⟩ k old ((((w.alloc (.cells #[.pointer (some t)] 87)).alloc (.cells #[.pointer (some ⟨9, 87, none⟩), .pointer (some ⟨w.heap.size, 0, none⟩), .int .u64 150] 137)).alloc (.cells #[.pointer (some ⟨9, 87, none⟩), .pointer (some ⟨w.heap.size, 0, none⟩), .int .u64 150] 137)).alloc (.cells #[.int .i64 k] 35))
    (by rw [World.cell?_alloc_at _ _ _ _ (by simp)]; rfl)
    (by rw [World.cell?_alloc_lt _ _ t (by simp; omega), World.cell?_alloc_lt _ _ t (by simp; omega), World.cell?_alloc_lt _ _ t (by simp; omega), World.cell?_alloc_lt _ _ t htl]; exact ht0)
    (by rw [World.frozen?_alloc_old _ _ t (by simp; omega), World.frozen?_alloc_old _ _ t (by simp; omega), World.frozen?_alloc_old _ _ t (by simp; omega), World.frozen?_alloc_old _ _ t (Nat.ne_of_lt htl)]; exact hf0)
  go_enter Tryz.func36, Tryz.ntmps36
  go_wp2
  refine wp_loop_rounds 1 ?_
  rw [rounds_succ]
  go_wp2
  go_ret
  exact ⟨rfl, rfl⟩

theorem tell_nil (w : World) : Calls Tryz.prog 11 #[.nilIface] w fun e w' => e = .returned (.int .i64 0) ∧ Below w.heap.size w w' := by
  have HB : Hid (Below w.heap.size w (w.alloc (.cells #[.int .i64 0] 35))) := (Below.refl _ w).alloc (Nat.le_refl _) _
  go_enter Tryz.func11, Tryz.ntmps11
  go_wp2
  go_ret
  exact ⟨rfl, HB.out⟩
theorem tell_errno (k : Int) (w : World) (hg : w.cell? ⟨0, 0, none⟩ = some (.iface 188 (.agg #[.pointer (some ⟨9, 28, none⟩)]))) :
    Calls Tryz.prog 11 #[.iface 35 (.int .i64 k)] w fun e w' => e = .returned (.int .i64 k) ∧ Below w.heap.size w w' := by
  have hlt : 0 < w.heap.size := by
    rcases Nat.lt_or_ge 0 w.heap.size with h | h
    · exact h
    · simp [World.cell?, Array.getElem?_eq_none h] at hg
  have hg2 : (w.alloc (.cells #[.int .i64 0] 35)).cell? ⟨0, 0, none⟩ = some (.iface 188 (.agg #[.pointer (some ⟨9, 28, none⟩)])) := by
    rw [World.cell?_alloc_lt _ _ ⟨0, 0, none⟩ hlt]; exact hg
  go_enter Tryz.func11, Tryz.ntmps11
  go_wp2_with (go_at_call 36; refine (as_hit k ⟨w.heap.size, 0, none⟩ (.int .i64 0) _ hg2 (by simp) (by simp [go_sem])).mono ?_; rintro e w' ⟨rfl, rfl⟩)
  go_ret
  exact ⟨rfl, (((((Below.refl _ w).alloc (Nat.le_refl _) _).alloc (by simp) _).alloc (by simp; omega) _).alloc (by simp; omega) _).alloc (by simp; omega) _⟩
end Go.Proofs.YtbpdielmdhhdfaaGreatDoor
/- 'Hex'. -/
namespace Go.Proofs.YtbpdielmdhhdfaaGreatDoor.Hx
open Go.RowKit
set_option linter.unusedVariables false

theorem Tryz.info5 : (Tryz.prog.info? 5).map (fun i => (i.zero, i.size, i.bytes)) = some (some (.int .u8 0), 1, 1) := by kernel_rfl
theorem Tryz.info32 : (Tryz.prog.info? 32).map (·.size) = some 20 := by kernel_rfl
theorem Tryz.info31 : (Tryz.prog.info? 31).map (·.size) = some 20 := by kernel_rfl
theorem info_parts {o : Option TypeInfo} {z : Value} {a b : Nat} (h : o.map (fun i => (i.zero, i.size, i.bytes)) = some (some z, a, b)) : ∃ i, o = some i ∧ i.zero = some z ∧ i.size = a ∧ i.bytes = b := by
  cases o with
  | none => simp at h
  | some i => simp at h; exact ⟨i, rfl, h.1, h.2.1, h.2.2⟩
def row (zs : List Int) : List Value := zs.map (Value.int .u8)
theorem row_len (zs : List Int) : (row zs).length = zs.length := by simp [row]
theorem row_at (zs : List Int) (i : Nat) (h : i < zs.length) : (row zs)[i]? = some (.int .u8 (zs.getD i 0)) := by simp [row, h]
theorem row_one (zs : List Int) : ∀ v ∈ row zs, v.oneCell' = true := by
  intro v hv; simp only [row, List.mem_map] at hv; obtain ⟨c, _, rfl⟩ := hv; rfl
theorem row_set (zs : List Int) (n : Nat) (c : Int) : (row zs).toArray.setIfInBounds n (.int .u8 c) = (row (zs.set n c)).toArray := by
  simp [row, List.map_set]
theorem row_cell {w : World} {g : Nat} {zs : List Int} {t : TypeId} {fr : Nat × Nat} (h : w.heap[g]? = some (.cells (row zs).toArray t fr)) (i : Nat) (hi : i < zs.length) : w.cell? ⟨g, i, none⟩ = some (.int .u8 (zs.getD i 0)) := by
  rw [cell_of_row w g i _ t fr h]; simpa using row_at zs i hi
theorem range_row {w : World} {g : Nat} {cs : List Value} {t : TypeId} {fr : Nat × Nat} (h : w.heap[g]? = some (.cells cs.toArray t fr)) : w.rangeAt g 0 cs := fun j v hv => by
  rw [Nat.zero_add, cell_of_row w g j _ t fr h]; simpa using hv
theorem there_row {w : World} {g n : Nat} {zs : List Int} {t : TypeId} (h : w.heap[g]? = some (.cells (row zs).toArray t (0, 0))) (hn : zs.length = n) : w.there g 0 n := fun j hj => by
  rw [Nat.zero_add]
  exact ⟨by rw [row_cell h j (by omega)]; rfl, frozen_of_row w g j _ t h⟩
def dig (n : Int) : Int := if n < 10 then 48 + n else 87 + n
def hexOf (zs : List Int) : List Int := zs.flatMap fun x => [dig (x / 16), dig (x % 16)]
theorem hexOf_snoc (l : List Int) (x : Int) : hexOf (l ++ [x]) = hexOf l ++ [dig (x / 16), dig (x % 16)] := by simp [hexOf]
theorem hexOf_len (l : List Int) : (hexOf l).length = 2 * l.length := by
  induction l with
  | nil => rfl
  | cons a l ih => simp [hexOf] at ih ⊢; omega
theorem take_snoc (zs : List Int) (k : Nat) (h : k < zs.length) : zs.take (k + 1) = zs.take k ++ [zs.getD k 0] := by
  rw [List.take_succ_eq_append_getElem h]; simp [h]

theorem index_row {P : Program} (t e : TypeId) (n : Nat) (cs : Array Value) (k : IntKind) (i : Nat) (v : Value) (w : World) (h : P.underlying t = some (.array n e)) (he : (P.info? e).map (·.size) = some 1) (d : TypeDesc) (hu : P.underlying e = some d) (hd : d.isRow = false) (hi : i < n) (hv : cs[i]? = some v) :
    (Instr.index t (.agg cs) (.int k i)).run P w = .ok v w := by
  cases hq : P.info? e with
  | none => simp [hq] at he
  | some inf =>
    have hs : inf.size = 1 := by simpa [hq] using he
    have hagg : (isAgg e).run P w = .ok false w := by
      unfold isAgg
      rw [Sem.run_bind, run_underlying hu w]
      cases d <;> simp_all
    simp [Instr.index, asIntOf, run_underlying h, hi, part, sizeOf, typeInfo, hq, hs, hagg, hv]
theorem Tryz.size5 : (Tryz.prog.info? 5).map (·.size) = some 1 := by kernel_rfl
def digs : ByteArray := { data := #[48, 49, 50, 51, 52, 53, 54, 55, 56, 57, 97, 98, 99, 100, 101, 102] }
theorem index_digs (v : Int) (w : World) (h0 : 0 ≤ v) (h1 : v < 16) : (Instr.index 9 (.string { data := #[48, 49, 50, 51, 52, 53, 54, 55, 56, 57, 97, 98, 99, 100, 101, 102] }) (.int .u8 v)).run Tryz.prog w = .ok (.int .u8 (dig v)) w := by
  obtain ⟨n, rfl⟩ := Int.eq_ofNat_of_zero_le h0
  have hn : n < 16 := by omega
  match n, hn with
  | 0, _ => show _ = _; kernel_rfl
  | 1, _ => show _ = _; kernel_rfl
  | 2, _ => show _ = _; kernel_rfl
  | 3, _ => show _ = _; kernel_rfl
  | 4, _ => show _ = _; kernel_rfl
  | 5, _ => show _ = _; kernel_rfl
  | 6, _ => show _ = _; kernel_rfl
  | 7, _ => show _ = _; kernel_rfl
  | 8, _ => show _ = _; kernel_rfl
  | 9, _ => show _ = _; kernel_rfl
  | 10, _ => show _ = _; kernel_rfl
  | 11, _ => show _ = _; kernel_rfl
  | 12, _ => show _ = _; kernel_rfl
  | 13, _ => show _ = _; kernel_rfl
  | 14, _ => show _ = _; kernel_rfl
  | 15, _ => show _ = _; kernel_rfl

theorem and15 (x : Int) (h0 : 0 ≤ x) (h1 : x < 256) : bits .and .u8 x 15 = x % 16 := by
  obtain ⟨n, rfl⟩ := Int.eq_ofNat_of_zero_le h0
  have : ∀ n : Nat, n < 256 → bits .and .u8 (n : Int) 15 = (n : Int) % 16 := by decide +kernel
  exact this n (by omega)
theorem grownBy_allocD (w : World) (o : Obj) (row : Option Nat) : w.grownBy (w.alloc o).drew row := let h := World.grownBy_alloc w o row; ⟨h.os, h.tape, h.output, h.size, h.block⟩
theorem own_lt {w : World} {B : Nat} {e : TypeId} {s : Nat} {v : Value} {n : Nat} {xs : List Value} (h : w.ownsRow B e s v n xs) (k : Nat) (hk : v.ownBlock = some k) : B ≤ k ∧ k < w.heap.size := h.lt k hk
theorem below_step {B : Nat} {w0 w wx w3 : World} {r : Option Nat} (h : Below B w0 w) (hB : B ≤ w0.heap.size) (hx : w.grownBy wx none) (hg : wx.grownBy w3 r) (hr : ∀ k, r = some k → B ≤ k) : Below B w0 w3 :=
  (h.grown hx (Nat.le_trans hB h.size) (fun k h => by cases h)).grown hg (Nat.le_trans (Nat.le_trans hB h.size) hx.size) hr
set_option maxRecDepth 20000 in
set_option maxHeartbeats 1000000 in
theorem hex_prog (zs : List Int) (w : World) (hl : zs.length = 20) (hz : ∀ n ∈ zs, 0 ≤ n ∧ n < 256) :
    Calls Tryz.prog 55 #[.agg (row zs).toArray] w fun e w' => e = .returned (.string (strOfNums (hexOf zs))) ∧ Below w.heap.size w w' := by
  obtain ⟨i5, hi, hz0, hz1, hz2⟩ := info_parts Tryz.info5
  obtain ⟨arr, HA⟩ : ∃ arr, Hid (arr = row zs) := ⟨_, rfl⟩
  rw [← HA.out]
  have hsz : arr.toArray.size = 20 := by rw [HA.out, List.size_toArray, row_len]; exact hl
  have HB0 : Hid (Below w.heap.size w (w.alloc (.cells arr.toArray 32))) := (Below.refl _ w).alloc (Nat.le_refl _) _
  have HC0 : Hid ((w.alloc (.cells arr.toArray 32)).rangeAt w.heap.size 0 arr) := range_row (heap_alloc_new w _)
  go_enter Tryz.func55, Tryz.ntmps55
  go_wp2_with (at_make; refine wpList_make_own _ rfl _ _ 23 rfl w.heap.size 5 i5 (.int .u8 0) 1 Tryz.underlying23 hi hz0 hz1 _ _ _ 40 rfl rfl ?c1 ?c2 ?c3 ?c4 ?_)
  case c1 => rfl
  case c2 => rw [hz2]; omega
  case c3 => unfold maxLen; omega
  case c4 => simp
  · intro w1 hown hgrow
    have HC1 : w1.rangeAt w.heap.size 0 arr := fun j v hj => (World.cell?_of_block (a := ⟨w.heap.size, 0 + j, none⟩) (hgrow.block _ (by simp) (by simp))).trans (HC0.out j v hj)
    have HB1 : Hid (Below w.heap.size w w1) := HB0.out.grown hgrow (by simp) (fun k h => by cases h)
    clear HB0 hgrow HC0
    have hi23 : (Tryz.prog.info? 32).map (·.size) = some arr.length := by rw [Tryz.info32, ← hsz]; simp
    go_wp2_with (refine wpList_load_mid rfl 32 _ rfl w.heap.size 0 rfl arr _ HC1 Tryz.underlying32 rfl hi23 ?_)
    clear HC1
    go_loopg [3, 8] 20 (fun k s i wr => ∃ j g cp : Nat, j ≤ 20 ∧ k = 20 - j ∧ i = .int .i64 j ∧ s = .slice (some ⟨g, 0, none⟩) (2 * j) cp ∧ wr.ownsRow w.heap.size 5 1 (.slice (some ⟨g, 0, none⟩) (2 * j) cp) (2 * j) ((hexOf (zs.take j)).map (Value.int .u8)) ∧ Hid (Below w.heap.size w wr))
    case atStart => exact ⟨0, _, _, by omega, rfl, rfl, rfl, by simpa [hexOf] using hown, HB1⟩
    case round =>
      clear hown HB1
      obtain ⟨j, g, cp, hj, hk, rfl, rfl, hown, HB⟩ := hrel
      by_cases hlt : j < 20
      · obtain ⟨x, HX⟩ : ∃ x, Hid (x = zs.getD j 0) := ⟨_, rfl⟩
        have hg : arr.toArray[j]? = some (.int .u8 x) := by rw [HA.out, HX.out]; simpa using row_at zs j (by omega)
        have hx := hz x (by rw [HX.out, List.getD_eq_getElem?_getD, List.getElem?_eq_getElem (by omega)]; exact List.getElem_mem _)
        have hix : ∀ w1 : World, (Instr.index 32 (.agg arr.toArray) (.int .i64 j)).run Tryz.prog w1 = .ok (.int .u8 x) w1 := fun w1 => index_row 32 5 20 _ _ j _ w1 Tryz.underlying32 Tryz.size5 _ Tryz.underlying5 rfl hlt hg
        obtain ⟨p, HP⟩ : ∃ p, Hid (p = x / 16) := ⟨_, rfl⟩
        obtain ⟨q, HQ⟩ : ∃ q, Hid (q = x % 16) := ⟨_, rfl⟩
        have hp : x / 16 = p := HP.out.symm
        have hq : bits .and .u8 x 15 = q := by rw [HQ.out]; exact and15 x hx.1 hx.2
        have hdp : ∀ w1 : World, (Instr.index 9 (.string { data := #[48, 49, 50, 51, 52, 53, 54, 55, 56, 57, 97, 98, 99, 100, 101, 102] }) (.int .u8 p)).run Tryz.prog w1 = .ok (.int .u8 (dig p)) w1 := fun w1 => index_digs p w1 (by omega) (by omega)
        have hdq : ∀ w1 : World, (Instr.index 9 (.string { data := #[48, 49, 50, 51, 52, 53, 54, 55, 56, 57, 97, 98, 99, 100, 101, 102] }) (.int .u8 q)).run Tryz.prog w1 = .ok (.int .u8 (dig q)) w1 := fun w1 => index_digs q w1 (by rw [HQ.out]; omega) (by rw [HQ.out]; omega)
        obtain ⟨dp, HDP⟩ : ∃ d, Hid (d = dig p) := ⟨_, rfl⟩
        obtain ⟨dq, HDQ⟩ : ∃ d, Hid (d = dig q) := ⟨_, rfl⟩
        rw [← HDP.out] at hdp
        rw [← HDQ.out] at hdq
        go_wp2
        go_region_law ((refine step_append_lies _ (by rfl) _ _ _ (by rfl) w.heap.size 5 i5 (.int .u8 0) 1 1 Tryz.underlying23 hi hz0 hz1 hz2 rfl (by omega) (.slice (some ⟨g, 0, none⟩) (2 * j) cp) (2 * j) ((hexOf (zs.take j)).map (Value.int .u8)) (by rfl) (by exact hown.alloc _) ⟨wr.heap.size, 0, none⟩ 2 2 [.int .u8 dp, .int .u8 dq] (by rfl) (by rfl) (by intro j u hj; match j, hj with | 0, hj => simp at hj; subst hj; simp [Addr.add] | 1, hj => simp at hj; subst hj; simp [Addr.add]) (by intro u hu; simp at hu; rcases hu with rfl | rfl <;> rfl) (by omega) (by unfold maxLen; omega) (by omega) (by have := HB.out.size; simp; omega) (wr.heap.size + 1) (by simp) ?_; intro g2 cp2 w3 hown1 hgrow hat hlt))
        all_goals
          have HB2 : Hid (Below w.heap.size w w3) := below_step HB.out (Nat.le_refl _) (grownBy_allocD wr _ none) hgrow (fun k hk => (own_lt hown k hk).1)
          have HO : Hid (w3.ownsRow w.heap.size 5 1 (.slice (some ⟨g2, 0, none⟩) (2 * (j + 1)) cp2) (2 * (j + 1)) ((hexOf (zs.take (j + 1))).map (Value.int .u8))) := by
            show World.ownsRow _ _ _ _ _ _ _
            rw [take_snoc zs j (by omega), hexOf_snoc, List.map_append, ← HX.out, ← HP.out, ← HQ.out, List.map_cons, List.map_cons, List.map_nil, ← HDP.out, ← HDQ.out]
            exact hown1
          clear hown1 hgrow hat hown
          go_wp2
          go_roundg (20 - (j + 1))
          case measure => omega
          case rel => exact ⟨j + 1, g2, cp2, by omega, rfl, by go_num, rfl, HO.out, HB2⟩
      · obtain rfl : j = 20 := by omega
        have hcv : ∀ dst, Tryz.prog.underlying dst = some .string → (convert 23 dst (.slice (some ⟨g, 0, none⟩) 40 cp)).run Tryz.prog wr = .ok (.string (strOfNums (hexOf zs))) wr :=
          run_convert_bytes_arg wr 23 5 Tryz.underlying23 Tryz.underlying5 g 0 40 cp (hexOf zs) (by rw [hexOf_len]; omega) fun i hi => by
            rw [Nat.zero_add, hown.cellAt i (by omega), List.take_of_length_le (by omega), List.getElem?_map, List.getElem?_eq_getElem (by rw [hexOf_len]; omega)]
            simp [show i < (hexOf zs).length by rw [hexOf_len]; omega]
        have hcv9 := hcv 9 Tryz.underlying9
        clear hcv hown
        go_wp2
        go_ret
        exact ⟨rfl, HB.out⟩
end Go.Proofs.YtbpdielmdhhdfaaGreatDoor.Hx
/- 'Hex' of the document. -/
namespace Go.Proofs.YtbpdielmdhhdfaaGreatDoor.Hx
open Go.RowKit
set_option linter.unusedVariables false

theorem ret_int {k : IntKind} {a b : Int} (h : a = b) : Ending.returned (.int k a) = .returned (.int k b) := by rw [h]
theorem step_call {P : Program} {ops : Array Oper} {o : Oper} {a : Act} {w : World} {K : Act → World → Prop} {Q : Exit → Act → World → Prop} {E : Prop} (hg : o.guard = none) (f : FuncId) (s : Tmp) (t : TypeId) (v r : Value)
    (ho : o.op = .call { callee := .value (.func f), args := #[.tmp s], argTypes := #[t] }) (hx : a.eval (.tmp s) = v) (hent : ∀ (v : Value) (w : World), (callFunc f #[v]).run P w = .ok (.enter f #[v]) w)
    (hc : Calls P f #[v] w fun e w' => e = .returned r ∧ w' = w) (h : K (a.put o.dst r) w) :
    if Region.wanted o (yielded ops a.tmps) = true then Oper.wp P o a w K Q else E := by
  have hw : Region.wanted o (yielded ops a.tmps) = true := by simp [Region.wanted, hg]
  rw [if_pos hw]
  have hx' : a.tmps[s]?.getD undef = v := by simpa [Act.eval] using hx
  unfold Oper.wp
  simp [execOp, ho, resolve, invoke, go_sem]
  rw [hx', hent, Oper.upon_enter]
  refine hc.mono ?_
  rintro e w' ⟨rfl, rfl⟩
  exact h
theorem wrap_u8 (n : Int) (h0 : 0 ≤ n) (h1 : n < 256) : IntKind.u8.wrap n = n := by
  obtain ⟨m, rfl⟩ := Int.eq_ofNat_of_zero_le h0
  have : ∀ m : Nat, m < 256 → IntKind.u8.wrap (m : Int) = m := by decide +kernel
  exact this m (by omega)
theorem below_alloc {w w' : World} {o : Obj} (h : Below (w.heap.size + 1) (w.alloc o) w') : Below w.heap.size w w' :=
  ((Below.refl _ w).alloc (Nat.le_refl _) o).trans (h.mono (Nat.le_succ _))
theorem enter104 (v : Value) (w : World) : (callFunc 104 #[v]).run Tryz.prog w = .ok (.enter 104 #[v]) w := by kernel_rfl
set_option maxHeartbeats 1000000 in
theorem digit_any (n : Int) (w : World) (h0 : 0 ≤ n) (h1 : n < 16) : Calls Tryz.prog 104 #[.int .u8 n] w fun e w' => e = .returned (.int .u8 (dig n)) ∧ w' = w := by
  have hd : dig n = if n < 10 then 48 + n else 87 + n := rfl
  by_cases h : n < 10
  · rw [if_pos h] at hd
    go_enter Tryz.func104, Tryz.ntmps104
    go_wp2
    go_ret
    exact ⟨ret_int (by first | (rw [hd]; done) | (rw [hd]; omega) | go_num), rfl⟩
  · rw [if_neg h] at hd
    go_enter Tryz.func104, Tryz.ntmps104
    go_wp2
    go_ret
    exact ⟨ret_int (by omega), rfl⟩
set_option maxRecDepth 20000 in
set_option maxHeartbeats 1000000 in
theorem hex_ref (zs : List Int) (w : World) (hl : zs.length = 20) (hz : ∀ n ∈ zs, 0 ≤ n ∧ n < 256) :
    Calls Tryz.prog 60 #[.agg (row zs).toArray] w fun e w' => e = .returned (.string (strOfNums (hexOf zs))) ∧ Below w.heap.size w w' := by
  obtain ⟨i5, hi, hz0, hz1, hz2⟩ := info_parts Tryz.info5
  obtain ⟨arr, HA⟩ : ∃ arr, Hid (arr = row zs) := ⟨_, rfl⟩
  rw [← HA.out]
  have hsz : arr.toArray.size = 20 := by rw [HA.out, List.size_toArray, row_len]; exact hl
  have HB0 : Hid (Below w.heap.size w (w.alloc (.cells arr.toArray 31))) := (Below.refl _ w).alloc (Nat.le_refl _) _
  have HC0 : Hid (∀ i, i < 20 → (w.alloc (.cells arr.toArray 31)).cell? ⟨w.heap.size, i, none⟩ = some (.int .u8 (zs.getD i 0))) := fun i hi => row_cell (zs := zs) (t := 31) (fr := (0, 0)) (by rw [HA.out]; exact heap_alloc_new w _) i (by omega)
  go_enter Tryz.func60, Tryz.ntmps60
  go_wp2
  go_loopg [3, 4] 20 (fun k s i wr => ∃ j cp : Nat, ∃ a : Option Addr, j ≤ 20 ∧ k = 20 - j ∧ i = .int .i64 j ∧ s = .slice a (2 * j) cp ∧ wr.ownsRow (w.heap.size + 1) 5 1 (.slice a (2 * j) cp) (2 * j) ((hexOf (zs.take j)).map (Value.int .u8)) ∧ Hid (Below (w.heap.size + 1) (w.alloc (.cells arr.toArray 31)) wr))
  case atStart => exact ⟨0, 0, none, by omega, rfl, rfl, rfl, World.ownsRow_nil _ _ _ _, Below.refl _ _⟩
  case round =>
    obtain ⟨j, cp, a, hj, hk, rfl, rfl, hown, HB⟩ := hrel
    by_cases hlt : j < 20
    · obtain ⟨x, HX⟩ : ∃ x, Hid (x = zs.getD j 0) := ⟨_, rfl⟩
      have hc : wr.cell? ⟨w.heap.size, j, none⟩ = some (.int .u8 x) := by rw [HX.out]; exact (HB.out.cell (p := ⟨w.heap.size, j, none⟩) (by simp)).trans (HC0.out j hlt)
      have hx := hz x (by rw [HX.out, List.getD_eq_getElem?_getD, List.getElem?_eq_getElem (by omega)]; exact List.getElem_mem _)
      obtain ⟨p, HP⟩ : ∃ p, Hid (p = x / 16) := ⟨_, rfl⟩
      obtain ⟨q, HQ⟩ : ∃ q, Hid (q = x % 16) := ⟨_, rfl⟩
      have hp0 : x / 16 = p := HP.out.symm
      have hq0 : x % 16 = q := HQ.out.symm
      have hp : IntKind.u8.wrap (x.tdiv 16) = p := by rw [Int.tdiv_eq_ediv_of_nonneg hx.1, hp0]; exact wrap_u8 p (by omega) (by omega)
      have hq : x.tmod 16 = q := by rw [Int.tmod_eq_emod_of_nonneg hx.1, hq0]
      have hdp : ∀ w1, Calls Tryz.prog 104 #[.int .u8 p] w1 fun e w' => e = .returned (.int .u8 (dig p)) ∧ w' = w1 := fun w1 => digit_any p w1 (by omega) (by omega)
      have hdq : ∀ w1, Calls Tryz.prog 104 #[.int .u8 q] w1 fun e w' => e = .returned (.int .u8 (dig q)) ∧ w' = w1 := fun w1 => digit_any q w1 (by omega) (by omega)
      obtain ⟨dp, HDP⟩ : ∃ d, Hid (d = dig p) := ⟨_, rfl⟩
      obtain ⟨dq, HDQ⟩ : ∃ d, Hid (d = dig q) := ⟨_, rfl⟩
      rw [← HDP.out] at hdp
      rw [← HDQ.out] at hdq
      go_wp2
      go_region_law (first
        | (refine step_call (by rfl) 104 13 5 (.int .u8 p) (.int .u8 dp) (by rfl) (by rfl) enter104 (hdp _) ?_)
        | (refine step_call (by rfl) 104 18 5 (.int .u8 q) (.int .u8 dq) (by rfl) (by rfl) enter104 (hdq _) ?_)
        | (refine step_append_lies _ (by rfl) _ _ _ (by rfl) (w.heap.size + 1) 5 i5 (.int .u8 0) 1 1 Tryz.underlying23 hi hz0 hz1 hz2 rfl (by omega) (.slice a (2 * j) cp) (2 * j) ((hexOf (zs.take j)).map (Value.int .u8)) (by rfl) (by exact hown.alloc _) ⟨wr.heap.size, 0, none⟩ 2 2 [.int .u8 dp, .int .u8 dq] (by rfl) (by rfl) (by intro j u hj; match j, hj with | 0, hj => simp at hj; subst hj; simp [Addr.add] | 1, hj => simp at hj; subst hj; simp [Addr.add]) (by intro u hu; simp at hu; rcases hu with rfl | rfl <;> rfl) (by omega) (by unfold maxLen; omega) (by omega) (by have := HB.out.size; simp at this ⊢; omega) (wr.heap.size + 1) (by simp) ?_; intro g2 cp2 w3 hown1 hgrow hat hlt))
      all_goals
        have HB2 : Hid (Below (w.heap.size + 1) (w.alloc (.cells arr.toArray 31)) w3) := below_step HB.out (by simp) (grownBy_allocD wr _ none) hgrow (fun k hk => (own_lt hown k hk).1)
        have HO : Hid (w3.ownsRow (w.heap.size + 1) 5 1 (.slice (some ⟨g2, 0, none⟩) (2 * (j + 1)) cp2) (2 * (j + 1)) ((hexOf (zs.take (j + 1))).map (Value.int .u8))) := by
          show World.ownsRow _ _ _ _ _ _ _
          rw [take_snoc zs j (by omega), hexOf_snoc, List.map_append, ← HX.out, ← HP.out, ← HQ.out, List.map_cons, List.map_cons, List.map_nil, ← HDP.out, ← HDQ.out]
          exact hown1
        clear hown1 hgrow hat hown
        go_wp2
        go_roundg (20 - (j + 1))
        case measure => omega
        case rel => exact ⟨j + 1, cp2, _, by omega, rfl, by go_num, rfl, HO.out, HB2⟩
    · obtain rfl : j = 20 := by omega
      obtain ⟨g, cp, hcg⟩ : ∃ g cp', Value.slice a 40 cp = .slice (some ⟨g, 0, none⟩) 40 cp' := by
        obtain ⟨g, cp', h1, -, -⟩ := hown.form (by omega)
        exact ⟨g, cp', h1⟩
      simp only [Value.slice.injEq, true_and] at hcg
      obtain ⟨rfl, rfl⟩ := hcg
      have hcv : ∀ dst, Tryz.prog.underlying dst = some .string → (convert 23 dst (.slice (some ⟨g, 0, none⟩) 40 cp)).run Tryz.prog wr = .ok (.string (strOfNums (hexOf zs))) wr :=
        run_convert_bytes_arg wr 23 5 Tryz.underlying23 Tryz.underlying5 g 0 40 cp (hexOf zs) (by rw [hexOf_len]; omega) fun i hi => by
          rw [Nat.zero_add, hown.cellAt i (by omega), List.take_of_length_le (by omega), List.getElem?_map, List.getElem?_eq_getElem (by rw [hexOf_len]; omega)]
          simp [show i < (hexOf zs).length by rw [hexOf_len]; omega]
      have hcv9 := hcv 9 Tryz.underlying9
      clear hcv hown
      go_wp2
      go_ret
      exact ⟨rfl, below_alloc HB.out⟩
end Go.Proofs.YtbpdielmdhhdfaaGreatDoor.Hx
