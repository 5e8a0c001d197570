/- Ids in memory; sets of ids. -/
import Derived.Test.YtijeogdnjeamaaaGreatDoorWbA
import Derived.WideKeyEntry
namespace Go.Proofs.YtijeogdnjeamaaaGreatDoor
open Go.RowKit
set_option linter.unusedVariables false
set_option linter.unusedSimpArgs false
theorem row_len (k : IntKind) (zs : List Int) : (row k zs).length = zs.length := by simp [row]
theorem bx_nil {α : Type} {enc : α → List Value} {k : Nat} (e : TypeId) (w : World) (B : Nat) (h : B ≤ w.heap.size) : Bx enc k e w w B (.slice none 0 0) [] := ⟨Below.refl _ _, ⟨by simp, .inl ⟨rfl, rfl⟩⟩, h⟩
def z20 : List Int := List.replicate 20 0
def IdW (x : List Int) : Prop := x.length = 20 ∧ IsB x
abbrev idV (x : List Int) : Value := .agg (row .u8 x).toArray
abbrev Pa (w : World) (a : Option Addr) (cap : Nat) (l : List (List Int)) : Prop := Px (row .u8) 20 [] w a cap l
abbrev Bi (e : TypeId) (w0 w : World) (B : Nat) (v : Value) (l : List (List Int)) : Prop := Bx (row .u8) 20 e w0 w B v l
theorem idw_row {l : List (List Int)} (h : ∀ x ∈ l, IdW x) : ∀ x ∈ l, (row .u8 x).length = 20 := fun x hx => by rw [row_len]; exact (h x hx).1
theorem Tryz.info68 : (Tryz.prog.info? 68).map (fun i => (i.zero, i.size, i.bytes)) = some (some (.agg (row .u8 z20).toArray), 20, 20) := by kernel_rfl
theorem Tryz.info67 : (Tryz.prog.info? 67).map (fun i => (i.zero, i.size, i.bytes)) = some (some (.agg (row .u8 z20).toArray), 20, 20) := by kernel_rfl
theorem zero68 (w : World) : (zeroValue 68).run Tryz.prog w = .ok (.agg (row .u8 z20).toArray) w := by kernel_rfl
theorem list20 : ∀ (fr : List Int), fr.length = 20 → ∃ a0 a1 a2 a3 a4 a5 a6 a7 a8 a9 a10 a11 a12 a13 a14 a15 a16 a17 a18 a19, fr = [a0, a1, a2, a3, a4, a5, a6, a7, a8, a9, a10, a11, a12, a13, a14, a15, a16, a17, a18, a19]
  | [a0, a1, a2, a3, a4, a5, a6, a7, a8, a9, a10, a11, a12, a13, a14, a15, a16, a17, a18, a19], _ => ⟨a0, a1, a2, a3, a4, a5, a6, a7, a8, a9, a10, a11, a12, a13, a14, a15, a16, a17, a18, a19, rfl⟩
theorem pa_one (w : World) (x : List Int) (e : TypeId) : Pa (w.alloc (.cells (row .u8 x).toArray e)) (some ⟨w.heap.size, 0, none⟩) 1 [x] :=
  ⟨Nat.le_refl _, fun _ => ⟨w.heap.size, 0, rfl, by simp, fun i hi j v hv => by
    obtain rfl : i = 0 := by simpa using hi
    have := range_row (heap_alloc_new w (.cells (row .u8 x).toArray e)) j v hv
    simpa using this⟩, fun h => by cases h⟩
set_option maxRecDepth 20000 in
theorem run_b41 (x : List Int) (h : x.length = 20) (w : World) : (Instr.buildSlice 41 1 #[(0, idV x)]).run Tryz.prog w = .ok (.slice (some ⟨w.heap.size, 0, none⟩) 1 1) (w.alloc (.cells (row .u8 x).toArray 68)) := by
  obtain ⟨i, hq, hz, hs, _⟩ := info_parts Tryz.info68
  refine run_buildSlice w 41 68 1 _ (row .u8 x).toArray i _ Tryz.underlying41 hq hz (by rw [hs]; decide) (by rw [hs]; decide) ?_
  rw [hs]
  obtain ⟨a0, a1, a2, a3, a4, a5, a6, a7, a8, a9, a10, a11, a12, a13, a14, a15, a16, a17, a18, a19, e⟩ := list20 x h
  rw [e]
  kernel_rfl
set_option maxRecDepth 20000 in
theorem run_b43 (x : List Int) (h : x.length = 20) (w : World) : (Instr.buildSlice 43 1 #[(0, idV x)]).run Tryz.prog w = .ok (.slice (some ⟨w.heap.size, 0, none⟩) 1 1) (w.alloc (.cells (row .u8 x).toArray 67)) := by
  obtain ⟨i, hq, hz, hs, _⟩ := info_parts Tryz.info67
  refine run_buildSlice w 43 67 1 _ (row .u8 x).toArray i _ Tryz.underlying43 hq hz (by rw [hs]; decide) (by rw [hs]; decide) ?_
  rw [hs]
  obtain ⟨a0, a1, a2, a3, a4, a5, a6, a7, a8, a9, a10, a11, a12, a13, a14, a15, a16, a17, a18, a19, e⟩ := list20 x h
  rw [e]
  kernel_rfl
theorem wpList_bS {P : Program} {ops : Array Oper} {rest : List Oper} {o : Oper} {a : Act} {w w' : World} {Q : Exit → Act → World → Prop} (hg : o.guard = none) (t len : Nat) (x : Operand) (ho : o.op = .buildSlice t len #[(0, x)]) (u v : Value) (hx : a.eval x = u)
    (hr : (Instr.buildSlice t len #[(0, u)]).run P w = .ok v w')
    (h : wpList P ops Q rest (a.put o.dst v) w') : wpList P ops Q (o :: rest) a w := by
  refine wpList_plain hg fun K hK => ?_
  unfold Oper.wp execOp
  simp [ho, hx, hr, Result.andThen]
  exact hK _ _ h
theorem eqItems_any {P : Program} (d : Nat) (e : TypeId) (he : P.plainKey e = true) (hu : P.underlying e = some (.int .u8)) (xs ys : List Int) : ∀ (is : List Nat) (w : World), (∀ j ∈ is, j < xs.length ∧ j < ys.length) → (Op.eqItems (d + 1) e 1 (row .u8 xs).toArray (row .u8 ys).toArray is).run P w = .ok (is.all fun j => xs.getD j 0 == ys.getD j 0) w
  | [], w, _ => by simp [Op.eqItems]
  | j :: is, w, h => by
    have hj := h j (by simp)
    have hp : (part e (row .u8 xs).toArray j).run P w = .ok (.int .u8 (xs.getD j 0)) w := run_part_plain w he (by simpa using row_at .u8 xs j hj.1)
    have hq : (part e (row .u8 ys).toArray j).run P w = .ok (.int .u8 (ys.getD j 0)) w := run_part_plain w he (by simpa using row_at .u8 ys j hj.2)
    have ih := eqItems_any d e he hu xs ys is w (fun k hk => h k (by simp [hk]))
    simp only [Op.eqItems, Sem.run_bind, Nat.mul_one, hp, hq, Result.andThen_ok]
    by_cases hxy : xs.getD j 0 = ys.getD j 0
    · have h2 : xs[j]?.getD 0 = ys[j]?.getD 0 := by simpa using hxy
      simp [go_sem, hu, ih, h2]
    · have h2 : ¬ xs[j]?.getD 0 = ys[j]?.getD 0 := by simpa using hxy
      simp [go_sem, hu, ih, h2]
theorem cells5 : Tryz.prog.cellsOf 5 = 1 := by kernel_rfl
theorem plain5 : Tryz.prog.plainKey 5 = true := by kernel_rfl
theorem all_eq20 (x y : List Int) (hx : x.length = 20) (hy : y.length = 20) : ((List.range 20).all fun j => x.getD j 0 == y.getD j 0) = decide (x = y) := by
  by_cases h : x = y
  · subst h
    simp
  · rw [decide_eq_false h, Bool.eq_false_iff]
    intro hall
    refine h (List.ext_getElem (by rw [hx, hy]) (fun j h1 h2 => ?_))
    have := List.all_eq_true.1 hall j (List.mem_range.2 (by omega))
    simpa [h1, h2] using this
theorem eq68 (x y : List Int) (hx : x.length = 20) (hy : y.length = 20) (w : World) : (Op.equalIn 10000 68 (idV x) (idV y)).run Tryz.prog w = .ok (decide (x = y)) w := by
  obtain ⟨i5, hi, -⟩ := info_parts Tryz.info5
  have h1 := eqItems_any (P := Tryz.prog) 9998 5 plain5 Tryz.underlying5 x y (List.range 20) w (fun j hj => by rw [hx, hy]; exact ⟨List.mem_range.1 hj, List.mem_range.1 hj⟩)
  rw [all_eq20 x y hx hy] at h1
  rw [show (10000 : Nat) = 9999 + 1 from rfl, run_equalIn_array w 9999 _ _ Tryz.underlying68 hi, cells5]
  exact h1
theorem eq67 (x y : List Int) (hx : x.length = 20) (hy : y.length = 20) (w : World) : (Op.equalIn 10000 67 (idV x) (idV y)).run Tryz.prog w = .ok (decide (x = y)) w := by
  obtain ⟨i5, hi, -⟩ := info_parts Tryz.info5
  have h1 := eqItems_any (P := Tryz.prog) 9998 5 plain5 Tryz.underlying5 x y (List.range 20) w (fun j hj => by rw [hx, hy]; exact ⟨List.mem_range.1 hj, List.mem_range.1 hj⟩)
  rw [all_eq20 x y hx hy] at h1
  rw [show (10000 : Nat) = 9999 + 1 from rfl, run_equalIn_array w 9999 _ _ Tryz.underlying67 hi, cells5]
  exact h1
theorem mapM_some {α β : Type} (f : α → Option β) : ∀ l : List α, (∀ i ∈ l, ∃ y, f i = some y) → ∃ ys, l.mapM f = some ys
  | [], _ => ⟨[], rfl⟩
  | a :: r, h => by
    obtain ⟨y, hy⟩ := h a (by simp)
    obtain ⟨ys, hys⟩ := mapM_some f r (fun i hi => h i (by simp [hi]))
    exact ⟨y :: ys, by simp [List.mapM_cons, hy, hys]⟩
theorem types296 : Tryz.prog.types.size = 296 := by kernel_rfl
theorem cellsOf68 : Tryz.prog.cellsOf 68 = 20 := by kernel_rfl
theorem keyed68 : Maps.Keyed Tryz.prog 68 := Maps.Keyed.of_law (deep_law_laid (m := 10) (by kernel_rfl) (by decide) (of_decide_eq_true (by kernel_rfl)) (by kernel_rfl) (by kernel_rfl))
set_option maxRecDepth 20000 in
theorem key_id (x : List Int) (h : x.length = 20) (hb : IsB x) : ∃ kl, keyOf Tryz.prog 68 (idV x) = some kl := by
  have hlen : (row .u8 x).length = 20 := by rw [row_len]; exact h
  have hform : (idV x).formed Tryz.prog 68 = true := by
    simp [Value.formed, Tryz.underlying68, hlen, cellsOf68]
  have hlits : ∃ ls, Tryz.prog.keyLits 297 68 (row .u8 x) = some ls := by
    obtain ⟨ys, hys⟩ := mapM_some (fun i => Tryz.prog.keyLits 296 5 (((row .u8 x).drop (i * Tryz.prog.cellsOf 5)).take (Tryz.prog.cellsOf 5))) (List.range 20) (fun i hi => by
      have hi2 : i < 20 := List.mem_range.1 hi
      refine ⟨[.int .u8 (x[i]'(by omega))], ?_⟩
      have e : ((row .u8 x).drop (i * Tryz.prog.cellsOf 5)).take (Tryz.prog.cellsOf 5) = [.int .u8 (x[i]'(by omega))] := by
        rw [cells5, Nat.mul_one, List.drop_eq_getElem_cons (by omega)]
        simp [row]
      rw [e]
      have hw : (Lit.int .u8 (x[i]'(by omega))).wf = true := by
        have := hb _ (List.getElem_mem (l := x) (n := i) (by omega))
        exact WalkArith.wf_u8 ⟨this.1, by omega⟩
      unfold Program.keyLits
      rw [Tryz.underlying5]
      simp [hw])
    refine ⟨ys.flatten, ?_⟩
    unfold Program.keyLits
    rw [Tryz.underlying68]
    simp only [cellsOf68, hlen, if_true]
    rw [hys]
    rfl
  obtain ⟨ls, hls⟩ := hlits
  refine ⟨.string (keyBytes ls), ?_⟩
  unfold keyOf
  rw [Tryz.underlying68]
  simp only
  rw [if_pos (by rw [hform]; kernel_rfl), types296]
  show Option.map _ (Tryz.prog.keyLits (296 + 1) 68 (row .u8 x)) = _
  rw [hls]
  rfl
theorem row_inj {x y : List Int} (h : idV x = idV y) : x = y := by
  injection h with h
  have h2 : row .u8 x = row .u8 y := by simpa using congrArg Array.toList h
  unfold row at h2
  exact List.map_inj_right (fun a b e => by injection e) |>.1 h2
def SI (w : World) (g n : Nat) (S : List Int → Prop) : Prop := ∃ D, w.ownsMap (H := Unit) Tryz.prog 68 unitElem g n D ∧ ∀ x kl, keyOf Tryz.prog 68 (idV x) = some kl → (Maps.has D kl = true ↔ S x)
theorem SI.kept {w w' : World} {g n : Nat} {S : List Int → Prop} {row : Option Nat} (h : SI w g n S) (hg : w.grownBy w' row) (hne : some g ≠ row) : SI w' g n S := by
  obtain ⟨D, h1, h2⟩ := h
  exact ⟨D, h1.kept hg hne, h2⟩
theorem SI.below {w w' : World} {g n : Nat} {S : List Int → Prop} (h : SI w g n S) (hb : Below w.heap.size w w') : SI w' g n S := h.kept (row := none) (grown_of_below hb _) (by simp)
theorem SI.lt {w : World} {g n : Nat} {S : List Int → Prop} (h : SI w g n S) : g < w.heap.size := by obtain ⟨D, h1, _⟩ := h; exact h1.lt
theorem si_made (w : World) : SI (w.alloc (.map #[] 0)) w.heap.size 0 (fun _ => False) := ⟨_, World.ownsMap_made _ _ _ _, fun x kl _ => by simp [Maps.has]⟩
theorem und184 : Tryz.prog.underlying 184 = some (.map 68 185) := by kernel_rfl
theorem zero185 (w : World) : (zeroValue 185).run Tryz.prog w = .ok (.agg #[]) w := by kernel_rfl
theorem key_eq {x y : List Int} {kl : Lit} (h1 : keyOf Tryz.prog 68 (idV x) = some kl) (h2 : keyOf Tryz.prog 68 (idV y) = some kl) : x = y := row_inj (keyed68.inj h1 h2)
theorem SI.look {w : World} {g n : Nat} {S : List Int → Prop} (h : SI w g n S) {x : List Int} (hx : IdW x) : ∃ b : Bool, (b = true ↔ S x) ∧ (Instr.lookup 184 (.map (some g)) (idV x) true).run Tryz.prog w = .ok (.tuple #[.agg #[], .bool b]) w := by
  obtain ⟨D, h1, h2⟩ := h
  obtain ⟨kl, hkl⟩ := key_id x hx.1 hx.2
  obtain ⟨v, ps, hrun, hv⟩ := h1.look_ok keyed68 und184 (zero185 w) (unitElem_mk (H := Unit)) hkl
  obtain ⟨rfl, _⟩ := unitElem_inv hv
  exact ⟨_, h2 x kl hkl, hrun⟩
theorem SI.put {w : World} {g n : Nat} {S : List Int → Prop} (h : SI w g n S) (hn : n ≤ 100000) {x : List Int} (hx : IdW x) : ∃ w', (Instr.mapUpdate 184 (.map (some g)) (idV x) (.agg #[])).run Tryz.prog w = .ok () w' ∧ SI w' g (n + 1) (fun y => y = x ∨ S y) ∧ w.grownBy w' (some g) := by
  obtain ⟨D, h1, h2⟩ := h
  obtain ⟨kl, hkl⟩ := key_id x hx.1 hx.2
  obtain ⟨w', hrun, h3, h4⟩ := h1.update keyed68 und184 (by unfold maxLen; omega) hkl (unitElem_mk (H := Unit))
  refine ⟨w', hrun, ⟨_, h3, fun y ky hky => ?_⟩, h4⟩
  by_cases e : ky = kl
  · subst e
    rw [Maps.has_put_same h1.isMap (keyed68.key hkl)]
    simp [key_eq hky hkl]
  · rw [Maps.has_put_other e, h2 y ky hky]
    constructor
    · exact .inr
    · rintro (rfl | h)
      · rw [hkl] at hky; exact absurd (Option.some.inj hky).symm e
      · exact h
theorem wpList_run {P : Program} {ops : Array Oper} {rest : List Oper} {o : Oper} {a : Act} {w w' : World} {Q : Exit → Act → World → Prop} (hg : o.guard = none) (v : Value) (hr : (execOp a.eval o).run P w = .ok (.value v) w') (h : wpList P ops Q rest (a.put o.dst v) w') : wpList P ops Q (o :: rest) a w := by
  refine wpList_plain hg fun K hK => ?_
  unfold Oper.wp
  rw [hr]
  exact hK _ _ h
theorem wpList_skip {P : Program} {ops : Array Oper} {rest : List Oper} {o : Oper} {a : Act} {w w' : World} {Q : Exit → Act → World → Prop} (hg : o.guard = none) (hr : (execOp a.eval o).run P w = .ok .skip w') (h : wpList P ops Q rest (a.put o.dst undef) w') : wpList P ops Q (o :: rest) a w := by
  refine wpList_plain hg fun K hK => ?_
  unfold Oper.wp
  rw [hr]
  exact hK _ _ h
theorem step_skip {P : Program} {ops : Array Oper} {o : Oper} {a : Act} {w w' : World} {K : Act → World → Prop} {Q : Exit → Act → World → Prop} {E : Prop} (hg : o.guard = none) (hr : (execOp a.eval o).run P w = .ok .skip w') (h : K (a.put o.dst undef) w') :
    if Region.wanted o (yielded ops a.tmps) = true then Oper.wp P o a w K Q else E := by
  have hw : Region.wanted o (yielded ops a.tmps) = true := by simp [Region.wanted, hg]
  rw [if_pos hw]
  unfold Oper.wp
  rw [hr]
  exact h
theorem exec_lookup {P : Program} {o : Oper} {a : Act} {w w' : World} {t : TypeId} {m k : Operand} {b : Bool} (ho : o.op = .lookup t m k b) {mv kv v : Value} (hm : a.eval m = mv) (hk : a.eval k = kv) (hr : (Instr.lookup t mv kv b).run P w = .ok v w') : (execOp a.eval o).run P w = .ok (.value v) w' := by
  unfold execOp
  simp [ho, hm, hk, hr, Result.andThen]
theorem exec_update {P : Program} {o : Oper} {a : Act} {w w' : World} {t : TypeId} {m k x : Operand} (ho : o.op = .mapUpdate t m k x) {mv kv v : Value} (hm : a.eval m = mv) (hk : a.eval k = kv) (hx : a.eval x = v) (hr : (Instr.mapUpdate t mv kv v).run P w = .ok () w') : (execOp a.eval o).run P w = .ok .skip w' := by
  unfold execOp
  simp [ho, hm, hk, hx, hr, Result.andThen]
def BI (p : Prop) (e : Ending) : Prop := ∃ b : Bool, (b = true ↔ p) ∧ e = .returned (.bool b)
end Go.Proofs.YtijeogdnjeamaaaGreatDoor
