/- A set's 'has'; 'slices.Clone' of ids. -/
import Derived.Test.YtjgjeedablgmeaaDoorGrD
import Derived.Shelf.SlicesE.Clone
import Derived.Test.YtjgjeedablgmeaaDoorAnU
namespace Go.Proofs
open Go.Shelf
def Tryd.cloneI_ren : Go.Shelf.Ren := ⟨fun | 41 => 37 | n => n, fun | 22 => 32 | 23 => 42 | 4 => 4 | n => n, fun | n => n⟩
theorem Tryd.cloneI : Go.Proofs.SlLaysE0.n41 Tryd.prog Tryd.cloneI_ren := {
  mixed := by kernel_rfl
  f41 := ⟨Tryd.f37.name, by decide, Tryd.func37.trans (congrArg some (by kernel_rfl))⟩
  t4 := Tryd.underlying4
  a4 := Tryd.isAgg4
  z4 := Tryd.sizeOf4
  v4 := Tryd.zeroValue4
  t22 := Tryd.underlying32
  a22 := Tryd.isAgg32
  z22 := Tryd.sizeOf32
  v22 := Tryd.zeroValue32 }
end Go.Proofs
namespace Go.Proofs.YtjgjeedablgmeaaDoor
open Go.RowKit Go.Shelf
set_option linter.unusedVariables false
set_option linter.unusedSimpArgs false
theorem wpList_run {P : Program} {ops : Array Oper} {rest : List Oper} {o : Oper} {a : Act} {w w' : World} {Q : Exit → Act → World → Prop} (hg : o.guard = none) (v : Value) (hr : (execOp a.eval o).run P w = .ok (.value v) w') (h : wpList P ops Q rest (a.put o.dst v) w') : wpList P ops Q (o :: rest) a w := by
  refine wpList_plain hg fun K hK => ?_
  unfold Oper.wp
  rw [hr]
  exact hK _ _ h
theorem wpList_skip {P : Program} {ops : Array Oper} {rest : List Oper} {o : Oper} {a : Act} {w w' : World} {Q : Exit → Act → World → Prop} (hg : o.guard = none) (hr : (execOp a.eval o).run P w = .ok .skip w') (h : wpList P ops Q rest (a.put o.dst undef) w') : wpList P ops Q (o :: rest) a w := by
  refine wpList_plain hg fun K hK => ?_
  unfold Oper.wp
  rw [hr]
  exact hK _ _ h
theorem step_skip {P : Program} {ops : Array Oper} {o : Oper} {a : Act} {w w' : World} {K : Act → World → Prop} {Q : Exit → Act → World → Prop} {E : Prop} (hg : o.guard = none) (hr : (execOp a.eval o).run P w = .ok .skip w') (h : K (a.put o.dst undef) w') :
    if Region.wanted o (yielded ops a.tmps) = true then Oper.wp P o a w K Q else E := by
  have hw : Region.wanted o (yielded ops a.tmps) = true := by simp [Region.wanted, hg]
  rw [if_pos hw]
  unfold Oper.wp
  rw [hr]
  exact h
theorem step_store {P : Program} {ops : Array Oper} {o : Oper} {a : Act} {w : World} {K : Act → World → Prop} {Q : Exit → Act → World → Prop} {E : Prop} (hg : o.guard = none) (ty : TypeId) (x y : Operand) (ho : o.op = .store ty x y) (b of : Nat) (cells : Array Value) (hx : a.eval x = .pointer (some ⟨b, of, none⟩)) (hy : a.eval y = .agg cells)
    (ht : w.there b of cells.size) (hi : (P.info? ty).map (·.size) = some cells.size) (h1 : cells.all (·.oneCell') = true) (h : K (a.put o.dst undef) (w.setCells b of cells.toList)) :
    if Region.wanted o (yielded ops a.tmps) = true then Oper.wp P o a w K Q else E := by
  have hw : Region.wanted o (yielded ops a.tmps) = true := by simp [Region.wanted, hg]
  rw [if_pos hw]
  exact wp_store_mid ty x y ho b of cells hx hy ht hi h1 h
theorem exec_lookup {P : Program} {o : Oper} {a : Act} {w w' : World} {t : TypeId} {m k : Operand} {b : Bool} (ho : o.op = .lookup t m k b) {mv kv v : Value} (hm : a.eval m = mv) (hk : a.eval k = kv) (hr : (Instr.lookup t mv kv b).run P w = .ok v w') : (execOp a.eval o).run P w = .ok (.value v) w' := by
  unfold execOp
  simp [ho, hm, hk, hr, Result.andThen]
theorem exec_update {P : Program} {o : Oper} {a : Act} {w w' : World} {t : TypeId} {m k x : Operand} (ho : o.op = .mapUpdate t m k x) {mv kv v : Value} (hm : a.eval m = mv) (hk : a.eval k = kv) (hx : a.eval x = v) (hr : (Instr.mapUpdate t mv kv v).run P w = .ok () w') : (execOp a.eval o).run P w = .ok .skip w' := by
  unfold execOp
  simp [ho, hm, hk, hx, hr, Result.andThen]
theorem exec_entry {P : Program} {o : Oper} {a : Act} {w w' : World} {t : TypeId} {m k : Operand} (ho : o.op = .mapEntry t m k) {mv kv v : Value} (hm : a.eval m = mv) (hk : a.eval k = kv) (hr : (Instr.mapEntry t mv kv).run P w = .ok v w') : (execOp a.eval o).run P w = .ok (.value v) w' := by
  unfold execOp
  simp [ho, hm, hk, hr, Result.andThen]
theorem exec_entryStore {P : Program} {o : Oper} {a : Act} {w w' : World} {t : TypeId} {m k x : Operand} (ho : o.op = .entryStore t m k x) {mv kv v : Value} (hm : a.eval m = mv) (hk : a.eval k = kv) (hx : a.eval x = v) (hr : (Instr.entryStore t mv kv v).run P w = .ok () w') : (execOp a.eval o).run P w = .ok .skip w' := by
  unfold execOp
  simp [ho, hm, hk, hx, hr, Result.andThen]
/-- A test's answer. -/
def BI (p : Prop) (e : Ending) : Prop := ∃ b : Bool, (b = true ↔ p) ∧ e = .returned (.bool b)
theorem Tryd.size53 : (Tryd.prog.info? 53).map (·.size) = some 22 := by kernel_rfl
theorem zero105r (w : World) : (zeroValue 105).run Tryd.prog w = .ok (.agg #[]) w := by kernel_rfl
theorem sizeOf42' (w : World) : (Go.sizeOf 42).run Tryd.prog w = .ok 20 w := by kernel_rfl
set_option maxRecDepth 20000 in
theorem has_any {w : World} {g n : Nat} {S : List Int → Prop} (h : SI w g n S) {x : List Int} (hx : IdW x) : Calls Tryd.prog 32 #[.map (some g), idV x] w fun e w' => BI (S x) e ∧ Below w.heap.size w w' := by
  obtain ⟨G, HG⟩ : ∃ G, Hid (w.heap.size = G) := ⟨_, rfl⟩
  obtain ⟨Y, HY⟩ : ∃ S : List Value, Hid (row .u8 x = S) := ⟨_, rfl⟩
  have hiY : (Tryd.prog.info? 42).map (·.size) = some Y.length := by rw [← HY.out, row_len, hx.1]; exact Tryd.size42
  obtain ⟨w1, HW1⟩ : ∃ w1, Hid (w.alloc (.cells Y.toArray 42) = w1) := ⟨_, rfl⟩
  have hb1 : Below w.heap.size w w1 := by rw [← HW1.out]; exact (Below.refl _ w).alloc (Nat.le_refl _) _
  have RY : Hid ((w.alloc (.cells Y.toArray 42)).rangeAt w.heap.size 0 Y) := hid (range_row (heap_alloc_new w _))
  obtain ⟨b, hb, hlk⟩ := (h.below hb1).look hx
  have HLK : Hid ((Instr.lookup 68 (.map (some g)) (.agg Y.toArray) true).run Tryd.prog w1 = .ok (.tuple #[.agg #[], .bool b]) w1) := hid (by rw [← HY.out]; exact hlk)
  have HB : Hid (b = true ↔ S x) := hb
  have hz105 : ∀ w : World, (zeroValue 105).run Tryd.prog w = .ok (.agg #[]) w := zero105r
  have HB2 : Hid (Below G w (w1.alloc (.cells #[] 105))) := hid (by rw [← HG.out]; exact hb1.alloc hb1.size _)
  unfold idV
  rw [HY.out]
  clear hb1 hb hlk h
  go_enter Tryd.func32, Tryd.ntmps32
  go_wp2_with (first
    | (refine wpList_load_mid rfl 42 _ rfl w.heap.size 0 rfl Y _ RY.out Tryd.underlying42 rfl hiY ?_; rw [HW1.out, HG.out])
    | refine wpList_run rfl _ (exec_lookup rfl rfl rfl HLK.out) ?_
    | fail)
  go_ret
  exact ⟨⟨b, HB.out, rfl⟩, by rw [HG.out]; exact HB2.out⟩
set_option maxRecDepth 20000 in
theorem clone_empty (ad : Addr) (cap : Nat) (w : World) : Calls Tryd.prog 37 #[.slice (some ad) 0 cap] w fun e w' => ∃ v, e = .returned v ∧ Bi 42 w w' w.heap.size v [] := by
  obtain ⟨G, HG⟩ : ∃ G, Hid (w.heap.size = G) := ⟨_, rfl⟩
  have hbs : (Instr.buildSlice 32 0 #[]).run Tryd.prog w = .ok (.slice (some ⟨w.heap.size, 0, none⟩) 0 0) (w.alloc (.cells #[] 42)) := by kernel_rfl
  have HB1 : Hid (Bi 42 w (w.alloc (.cells #[] 42)) G (.slice (some ⟨w.heap.size, 0, none⟩) 0 0) []) := hid (by
    rw [← HG.out]
    exact ⟨(Below.refl _ w).alloc (Nat.le_refl _) _, ⟨by simp, .inr ⟨w.heap.size, 0, #[], rfl, Nat.le_refl _, heap_alloc_new w _, Nat.le_refl _, by unfold maxLen; omega, by simp, by simp⟩⟩, by simp⟩)
  have heq : (binOp .eql 32 (.slice (some ad) 0 cap) (.slice none 0 0)).run Tryd.prog w = .ok (.bool false) w := Lib.run_eql_slice_nil w _ _ (some ad) 0 cap 0 0 Tryd.underlying32
  have HPX : Hid (Pa (w.alloc (.cells #[] 42)) (some ad) cap []) := hid ⟨Nat.zero_le _, fun h => by simp at h, fun e => by cases e⟩
  go_enter Tryd.func37, Tryd.ntmps37
  go_wp2_with (first
    | (refine wpList_bx_sl (d := []) rfl _ _ 32 42 Tryd.underlying32 Tryd.info42 rfl (by decide) (by decide) (fun z => row_one _ z) rfl G _ [] rfl HB1.out (some ad) cap [] rfl HPX.out (fun z hz => by cases hz) (by simp) ?_; intro v8 w8 hb8 hg8)
    | fail)
  go_ret
  exact ⟨v8, rfl, by rw [HG.out]; exact hb8⟩
theorem clone_any (a : Option Addr) (cap : Nat) (l : List (List Int)) (w : World) (hq : ∀ x ∈ l, IdW x) (hl : l.length ≤ 30000) (hP : Pa w a cap l) (ha : True) :
    Calls Tryd.prog 37 #[.slice a l.length cap] w fun e w' => ∃ v, e = .returned v ∧ Bi 42 w w' w.heap.size v l := by
  obtain ⟨i, hi, hz0, hz1, hz2⟩ := info_parts Tryd.info42
  cases a with
  | none =>
    have h1 := hP.nil rfl
    have h2 := hP.capl
    obtain rfl : l = [] := List.length_eq_zero_iff.1 (by omega)
    subst h1
    refine (AnyE.slices_Clone_nil Tryd.cloneI 0 0 w).mono ?_
    rintro e w' ⟨rfl, rfl⟩
    exact ⟨_, rfl, bx_nil 42 _ _ (Nat.le_refl _)⟩
  | some ad =>
    by_cases h0 : l.length = 0
    · obtain rfl : l = [] := List.length_eq_zero_iff.1 h0
      exact clone_empty ad cap w
    · obtain ⟨b, off, e1, _⟩ := hP.at_ (by omega)
      cases e1
      refine (AnyE.slices_Clone Tryd.cloneI i (.agg (row .u8 z20).toArray) 20 20 hi hz0 hz1 hz2 rfl (by decide) sizeOf42' b off l.length cap (l.flatMap (row .u8)) w (fX_len l (idw_row hq)) (by unfold maxLen; omega) (by omega) (fun j u hj => by have := hP.cells (by decide) (idw_row hq) j u hj; rwa [addr_add] at this) (fX_one l (fun x => row_one _ x))).mono ?_
      rintro e w' ⟨v', rfl, h1, h2, h3⟩
      exact ⟨v', rfl, ⟨h3, h1, h3.size⟩⟩
end Go.Proofs.YtjgjeedablgmeaaDoor
