/- Ids and nodes in memory; maps and sets of ids. -/
import Derived.Test.YtjgjeedablgmeaaDoorGrA
import Derived.WideKeyEntry
namespace Go.Proofs.YtjgjeedablgmeaaDoor
open Go.RowKit
set_option linter.unusedVariables false
set_option linter.unusedSimpArgs false
def z20 : List Int := List.replicate 20 0
/-- An id. -/
def IdW (x : List Int) : Prop := x.length = 20 ∧ IsB x
abbrev idV (x : List Int) : Value := .agg (row .u8 x).toArray
abbrev Pa (w : World) (a : Option Addr) (cap : Nat) (l : List (List Int)) : Prop := Px (row .u8) 20 [] w a cap l
abbrev Bi (e : TypeId) (w0 w : World) (B : Nat) (v : Value) (l : List (List Int)) : Prop := Bx (row .u8) 20 e w0 w B v l
theorem idw_row {l : List (List Int)} (h : ∀ x ∈ l, IdW x) : ∀ x ∈ l, (row .u8 x).length = 20 := fun x hx => by rw [row_len]; exact (h x hx).1
theorem Tryd.info42 : (Tryd.prog.info? 42).map (fun i => (i.zero, i.size, i.bytes)) = some (some (.agg (row .u8 z20).toArray), 20, 20) := by kernel_rfl
theorem Tryd.info41 : (Tryd.prog.info? 41).map (fun i => (i.zero, i.size, i.bytes)) = some (some (.agg (row .u8 z20).toArray), 20, 20) := by kernel_rfl
theorem zero42 (w : World) : (zeroValue 42).run Tryd.prog w = .ok (.agg (row .u8 z20).toArray) w := by kernel_rfl
theorem list20 : ∀ (fr : List Int), fr.length = 20 → ∃ a0 a1 a2 a3 a4 a5 a6 a7 a8 a9 a10 a11 a12 a13 a14 a15 a16 a17 a18 a19, fr = [a0, a1, a2, a3, a4, a5, a6, a7, a8, a9, a10, a11, a12, a13, a14, a15, a16, a17, a18, a19]
  | [a0, a1, a2, a3, a4, a5, a6, a7, a8, a9, a10, a11, a12, a13, a14, a15, a16, a17, a18, a19], _ => ⟨a0, a1, a2, a3, a4, a5, a6, a7, a8, a9, a10, a11, a12, a13, a14, a15, a16, a17, a18, a19, rfl⟩
/-- One id in a block of its own. -/
theorem pa_one (w : World) (x : List Int) (e : TypeId) : Pa (w.alloc (.cells (row .u8 x).toArray e)) (some ⟨w.heap.size, 0, none⟩) 1 [x] :=
  ⟨Nat.le_refl _, fun _ => ⟨w.heap.size, 0, rfl, by simp, fun i hi j v hv => by
    obtain rfl : i = 0 := by simpa using hi
    have := range_row (heap_alloc_new w (.cells (row .u8 x).toArray e)) j v hv
    simpa using this⟩, fun h => by cases h⟩
set_option maxRecDepth 20000 in
theorem run_build32 (x : List Int) (h : x.length = 20) (w : World) : (Instr.buildSlice 32 1 #[(0, idV x)]).run Tryd.prog w = .ok (.slice (some ⟨w.heap.size, 0, none⟩) 1 1) (w.alloc (.cells (row .u8 x).toArray 42)) := by
  obtain ⟨i, hq, hz, hs, _⟩ := info_parts Tryd.info42
  refine run_buildSlice w 32 42 1 _ (row .u8 x).toArray i _ Tryd.underlying32 hq hz (by rw [hs]; decide) (by rw [hs]; decide) ?_
  rw [hs]
  obtain ⟨a0, a1, a2, a3, a4, a5, a6, a7, a8, a9, a10, a11, a12, a13, a14, a15, a16, a17, a18, a19, e⟩ := list20 x h
  rw [e]
  kernel_rfl
set_option maxRecDepth 20000 in
theorem run_build35 (x : List Int) (h : x.length = 20) (w : World) : (Instr.buildSlice 35 1 #[(0, idV x)]).run Tryd.prog w = .ok (.slice (some ⟨w.heap.size, 0, none⟩) 1 1) (w.alloc (.cells (row .u8 x).toArray 41)) := by
  obtain ⟨i, hq, hz, hs, _⟩ := info_parts Tryd.info41
  refine run_buildSlice w 35 41 1 _ (row .u8 x).toArray i _ Tryd.underlying35 hq hz (by rw [hs]; decide) (by rw [hs]; decide) ?_
  rw [hs]
  obtain ⟨a0, a1, a2, a3, a4, a5, a6, a7, a8, a9, a10, a11, a12, a13, a14, a15, a16, a17, a18, a19, e⟩ := list20 x h
  rw [e]
  kernel_rfl
theorem wpList_bS {P : Program} {ops : Array Oper} {rest : List Oper} {o : Oper} {a : Act} {w w' : World} {Q : Exit → Act → World → Prop} (hg : o.guard = none) (t len : Nat) (x : Operand) (ho : o.op = .buildSlice t len #[(0, x)]) (u v : Value) (hx : a.eval x = u)
    (hr : (Instr.buildSlice t len #[(0, u)]).run P w = .ok v w')
    (h : wpList P ops Q rest (a.put o.dst v) w') : wpList P ops Q (o :: rest) a w := by
  refine wpList_plain hg fun K hK => ?_
  unfold Oper.wp execOp
  simp [ho, hx, hr, Result.andThen]
  exact hK _ _ h
/-- Equal ids. -/
theorem eqItems_any {P : Program} (d : Nat) (e : TypeId) (he : P.plainKey e = true) (hu : P.underlying e = some (.int .u8)) (xs ys : List Int) : ∀ (is : List Nat) (w : World), (∀ j ∈ is, j < xs.length ∧ j < ys.length) → (Op.eqItems (d + 1) e 1 (row .u8 xs).toArray (row .u8 ys).toArray is).run P w = .ok (is.all fun j => xs.getD j 0 == ys.getD j 0) w
  | [], w, _ => by simp [Op.eqItems]
  | j :: is, w, h => by
    have hj := h j (by simp)
    have hp : (part e (row .u8 xs).toArray j).run P w = .ok (.int .u8 (xs.getD j 0)) w := run_part_plain w he (by simpa using row_at .u8 xs j hj.1)
    have hq : (part e (row .u8 ys).toArray j).run P w = .ok (.int .u8 (ys.getD j 0)) w := run_part_plain w he (by simpa using row_at .u8 ys j hj.2)
    have ih := eqItems_any d e he hu xs ys is w (fun k hk => h k (by simp [hk]))
    simp only [Op.eqItems, Sem.run_bind, Nat.mul_one, hp, hq, Result.andThen_ok]
    by_cases hxy : xs.getD j 0 = ys.getD j 0
    · have h2 : xs[j]?.getD 0 = ys[j]?.getD 0 := by simpa using hxy
      simp [go_sem, hu, ih, h2]
    · have h2 : ¬ xs[j]?.getD 0 = ys[j]?.getD 0 := by simpa using hxy
      simp [go_sem, hu, ih, h2]
theorem cells5 : Tryd.prog.cellsOf 5 = 1 := by kernel_rfl
theorem plain5 : Tryd.prog.plainKey 5 = true := by kernel_rfl
theorem all_eq20 (x y : List Int) (hx : x.length = 20) (hy : y.length = 20) : ((List.range 20).all fun j => x.getD j 0 == y.getD j 0) = decide (x = y) := by
  by_cases h : x = y
  · subst h
    simp
  · rw [decide_eq_false h, Bool.eq_false_iff]
    intro hall
    refine h (List.ext_getElem (by rw [hx, hy]) (fun j h1 h2 => ?_))
    have := List.all_eq_true.1 hall j (List.mem_range.2 (by omega))
    simpa [h1, h2] using this
theorem eq42 (x y : List Int) (hx : x.length = 20) (hy : y.length = 20) (w : World) : (Op.equalIn 10000 42 (idV x) (idV y)).run Tryd.prog w = .ok (decide (x = y)) w := by
  obtain ⟨i5, hi, -⟩ := info_parts Tryd.info5
  have h1 := eqItems_any (P := Tryd.prog) 9998 5 plain5 Tryd.underlying5 x y (List.range 20) w (fun j hj => by rw [hx, hy]; exact ⟨List.mem_range.1 hj, List.mem_range.1 hj⟩)
  rw [all_eq20 x y hx hy] at h1
  rw [show (10000 : Nat) = 9999 + 1 from rfl, run_equalIn_array w 9999 _ _ Tryd.underlying42 hi, cells5]
  exact h1
theorem eq41 (x y : List Int) (hx : x.length = 20) (hy : y.length = 20) (w : World) : (Op.equalIn 10000 41 (idV x) (idV y)).run Tryd.prog w = .ok (decide (x = y)) w := by
  obtain ⟨i5, hi, -⟩ := info_parts Tryd.info5
  have h1 := eqItems_any (P := Tryd.prog) 9998 5 plain5 Tryd.underlying5 x y (List.range 20) w (fun j hj => by rw [hx, hy]; exact ⟨List.mem_range.1 hj, List.mem_range.1 hj⟩)
  rw [all_eq20 x y hx hy] at h1
  rw [show (10000 : Nat) = 9999 + 1 from rfl, run_equalIn_array w 9999 _ _ Tryd.underlying41 hi, cells5]
  exact h1
/-- An id is a key. -/
theorem mapM_some {α β : Type} (f : α → Option β) : ∀ l : List α, (∀ i ∈ l, ∃ y, f i = some y) → ∃ ys, l.mapM f = some ys
  | [], _ => ⟨[], rfl⟩
  | a :: r, h => by
    obtain ⟨y, hy⟩ := h a (by simp)
    obtain ⟨ys, hys⟩ := mapM_some f r (fun i hi => h i (by simp [hi]))
    exact ⟨y :: ys, by simp [List.mapM_cons, hy, hys]⟩
theorem types194 : Tryd.prog.types.size = 194 := by kernel_rfl
theorem cellsOf42 : Tryd.prog.cellsOf 42 = 20 := by kernel_rfl
theorem keyed42 : Maps.Keyed Tryd.prog 42 := Maps.Keyed.of_law (deep_law_laid (m := 10) (by kernel_rfl) (by decide) (of_decide_eq_true (by kernel_rfl)) (by kernel_rfl) (by kernel_rfl))
theorem key_id (x : List Int) (h : x.length = 20) (hb : IsB x) : ∃ kl, keyOf Tryd.prog 42 (idV x) = some kl := by
  have hlen : (row .u8 x).length = 20 := by rw [row_len]; exact h
  have hform : (idV x).formed Tryd.prog 42 = true := by
    simp [Value.formed, Tryd.underlying42, hlen, cellsOf42]
  have hlits : ∃ ls, Tryd.prog.keyLits 195 42 (row .u8 x) = some ls := by
    obtain ⟨ys, hys⟩ := mapM_some (fun i => Tryd.prog.keyLits 194 5 (((row .u8 x).drop (i * Tryd.prog.cellsOf 5)).take (Tryd.prog.cellsOf 5))) (List.range 20) (fun i hi => by
      have hi2 : i < 20 := List.mem_range.1 hi
      refine ⟨[.int .u8 (x[i]'(by omega))], ?_⟩
      have e : ((row .u8 x).drop (i * Tryd.prog.cellsOf 5)).take (Tryd.prog.cellsOf 5) = [.int .u8 (x[i]'(by omega))] := by
        rw [cells5, Nat.mul_one, List.drop_eq_getElem_cons (by omega)]
        simp [row]
      rw [e]
      have hw : (Lit.int .u8 (x[i]'(by omega))).wf = true := by
        have := hb _ (List.getElem_mem (l := x) (n := i) (by omega))
        exact WalkArith.wf_u8 ⟨this.1, by omega⟩
      unfold Program.keyLits
      rw [Tryd.underlying5]
      simp [hw])
    refine ⟨ys.flatten, ?_⟩
    unfold Program.keyLits
    rw [Tryd.underlying42]
    simp only [cellsOf42, hlen, if_true]
    rw [hys]
    rfl
  obtain ⟨ls, hls⟩ := hlits
  refine ⟨.string (keyBytes ls), ?_⟩
  unfold keyOf
  rw [Tryd.underlying42]
  simp only
  rw [if_pos (by rw [hform]; kernel_rfl), types194]
  show Option.map _ (Tryd.prog.keyLits (194 + 1) 42 (row .u8 x)) = _
  rw [hls]
  rfl
theorem row_inj {x y : List Int} (h : idV x = idV y) : x = y := by
  injection h with h
  have h2 : row .u8 x = row .u8 y := by simpa using congrArg Array.toList h
  unfold row at h2
  exact List.map_inj_right (fun a b e => by injection e) |>.1 h2
/-- A set of ids: which, and how many at most were put in. -/
def SI (w : World) (g n : Nat) (S : List Int → Prop) : Prop := ∃ D, w.ownsMap (H := Unit) Tryd.prog 42 unitElem g n D ∧ ∀ x kl, keyOf Tryd.prog 42 (idV x) = some kl → (Maps.has D kl = true ↔ S x)
/-- A map of ids to numbers: of each, and how many there are. -/
def MI (w : World) (g n : Nat) (f : List Int → Option Int) (s : Nat) : Prop := ∃ D, w.ownsMap (H := Unit) Tryd.prog 42 (plainElem Tryd.prog 3) g n D ∧ Maps.size D = s ∧ ∀ x kl, keyOf Tryd.prog 42 (idV x) = some kl → (Maps.has D kl = (f x).isSome) ∧ D.atKey kl (.lit (.int .i64 0)) = .lit (.int .i64 ((f x).getD 0))
theorem SI.kept {w w' : World} {g n : Nat} {S : List Int → Prop} {row : Option Nat} (h : SI w g n S) (hg : w.grownBy w' row) (hne : some g ≠ row) : SI w' g n S := by
  obtain ⟨D, h1, h2⟩ := h
  exact ⟨D, h1.kept hg hne, h2⟩
theorem MI.kept {w w' : World} {g n s : Nat} {f : List Int → Option Int} {row : Option Nat} (h : MI w g n f s) (hg : w.grownBy w' row) (hne : some g ≠ row) : MI w' g n f s := by
  obtain ⟨D, h1, h2, h3⟩ := h
  exact ⟨D, h1.kept hg hne, h2, h3⟩
theorem SI.below {w w' : World} {g n : Nat} {S : List Int → Prop} (h : SI w g n S) (hb : Below w.heap.size w w') : SI w' g n S := h.kept (row := none) (grown_of_below hb _) (by simp)
theorem MI.below {w w' : World} {g n s : Nat} {f : List Int → Option Int} (h : MI w g n f s) (hb : Below w.heap.size w w') : MI w' g n f s := h.kept (row := none) (grown_of_below hb _) (by simp)
theorem SI.lt {w : World} {g n : Nat} {S : List Int → Prop} (h : SI w g n S) : g < w.heap.size := by obtain ⟨D, h1, _⟩ := h; exact h1.lt
theorem MI.lt {w : World} {g n s : Nat} {f : List Int → Option Int} (h : MI w g n f s) : g < w.heap.size := by obtain ⟨D, h1, _⟩ := h; exact h1.lt
theorem si_made (w : World) : SI (w.alloc (.map #[] 0)) w.heap.size 0 (fun _ => False) := ⟨_, World.ownsMap_made _ _ _ _, fun x kl _ => by simp [Maps.has]⟩
theorem mi_made (w : World) : MI (w.alloc (.map #[] 0)) w.heap.size 0 (fun _ => none) 0 := ⟨_, World.ownsMap_made _ _ _ _, rfl, fun x kl _ => by simp [Maps.has, DataW.atKey]⟩
def updF (f : List Int → Option Int) (x : List Int) (v : Int) : List Int → Option Int := fun y => if y = x then some v else f y
end Go.Proofs.YtjgjeedablgmeaaDoor
