/- THE LAW 'PackIndexes': its row, its card. -/
import Derived.Test.YtdfihfmmfmoabaaDoorPkY
import Derived.Test.YtdfihfmmfmoabaaDoorCards
import Derived.Test.YtdfihfmmfmoabaaDoorTie
import Derived.WalkKit
import Derived.ProofKit
import Derived.OpenShut
import Derived.Below
import Derived.Deep.DeepHandedRow
import Derived.Lib.LaidTab
import Derived.LaidLaws
import Derived.LaidHandle
import Derived.WideKeyArr2
import Derived.ChangeMaps5
import Derived.Deep.Slices
namespace Go.Proofs.YtdfihfmmfmoabaaDoor.Indexes
open Go.ChangeShapes Go.WideShapes Go.ChangeAt Go.RowKit
set_option linter.unusedVariables false
set_option linter.unusedSectionVars false

theorem own : ownKnob Tryd.prog.godebug = none := by kernel_rfl
theorem laidOut : laidOutB Tryd.prog = true := by kernel_rfl
theorem et : Tryd.prog.globalNamed "errors.errorType" = some 0 := by kernel_rfl
theorem rt : (Tryd.prog.cutTypes.find? (·.1 == "internal/reflectlite.rtype")).map (·.2) = some 98 := by kernel_rfl
theorem oneRow : ((List.range 172).filter fun t => Tryd.prog.rowNamed t [101, 114, 114, 111, 114]) = [27] := by kernel_rfl
theorem tsize : Tryd.prog.types.size = 172 := by kernel_rfl
theorem arrKey : WideMaps.ArrKey Tryd.prog 24 5 20 := ⟨Tryd.underlying24, by kernel_rfl, by kernel_rfl, by kernel_rfl⟩
theorem params3 : Tryd.f3.params = #[22, 24, 25, 24] := by kernel_rfl
theorem handle_of_laid {W : World} (h : laidMetH Tryd.prog Rows.packIndexesRow.laid W) : W.cell? ⟨0, 0, none⟩ = some (.iface 98 (.agg #[.pointer (some ⟨2, 27, none⟩)])) := by
  have h' : laidMet Tryd.prog [] W ∧ handlesMet Tryd.prog Rows.packIndexesRow.laid W := h
  obtain ⟨name, u, ty, e1, e2, e3, e4, e5⟩ := h'.2 _ (List.mem_singleton.2 rfl)
  have en : name = [101, 114, 114, 111, 114] := (Option.some.inj e1).symm
  subst en
  obtain rfl := Option.some.inj (rt.symm.trans e2)
  have hm : ty ∈ (List.range 172).filter fun t => Tryd.prog.rowNamed t [101, 114, 114, 111, 114] := List.mem_filter.2 ⟨List.mem_range.2 (by rw [← tsize]; exact e3), e4⟩
  rw [oneRow] at hm
  obtain rfl := List.mem_singleton.1 hm
  have hh : typeHandle Tryd.prog 27 = .pointer (some ⟨2, 27, none⟩) := by kernel_rfl
  rw [hh] at e5
  simpa using World.var?_cell et e5 0

theorem cell_lt {w : World} {a : Addr} {v : Value} (h : w.cell? a = some v) : a.block < w.heap.size := by
  rcases Nat.lt_or_ge a.block w.heap.size with h' | h'
  · exact h'
  · simp [World.cell?, Array.getElem?_eq_none h'] at h
theorem bytes5 : Tryd.prog.bytesOf 5 = 1 := by kernel_rfl
theorem lits_len {H : Type} (k : IntKind) (l : List Int) : (lits (H := H) k l).length = l.length := by simp [lits]
/-- What is known of a slice of bytes. -/
def One (W : World) (v : Value) (t : Option Addr × Nat × List Int) : Prop :=
  v = .slice t.1 t.2.2.length t.2.1 ∧ IsB t.2.2 ∧ Sl W t.1 t.2.1 t.2.2
theorem sl_nil (W : World) : Sl W none 0 [] := ⟨Nat.le_refl _, (fun h => by cases h), fun _ => rfl⟩
theorem open_one {H : Type} {enc : TypeId × Value → H} {W : World} {m : Nat} {v : Value} {y : DataW H × List MemPlace} (h : DataW.trod enc Tryd.prog W 0 (fun _ => true) true m 25 [v] = some y) :
    ∃ t, One W v t ∧ (t.2.2.length = 0 ∨ ∃ n, n ∈ y.1.weights Tryd.prog 25 ∧ t.2.2.length ≤ n) := by
  rcases open_ints Tryd.underlying25 Tryd.underlying5 (by kernel_rfl) h with ⟨hcs, _⟩ | ⟨x, l, c, zs, hcs, _, hl, hm, hz, hy, hcell, hwz⟩
  · simp only [List.cons.injEq, and_true] at hcs
    subst hcs
    exact ⟨(none, 0, []), ⟨rfl, (fun x hx => by cases hx), sl_nil W⟩, .inl rfl⟩
  · simp only [List.cons.injEq, and_true] at hcs
    subst hcs
    simp only [if_true] at hz
    have hlen : (zs.take l).length = l := by rw [List.length_take]; omega
    refine ⟨(some x, c, zs.take l), ⟨by rw [hlen], ?_, by rw [hlen]; exact hl, ?_, fun h => by cases h⟩, .inr ⟨c, ?_, by rw [hlen]; exact hl⟩⟩
    · intro n hn
      have := bounds_u8 (hwz n (List.mem_of_mem_take hn))
      omega
    · intro hpos
      rw [hlen] at hpos
      obtain ⟨b, off, spot⟩ := x
      have hc := hcell 0 (by omega)
      have hspot : spot = none := by simpa [Addr.add] using World.cell?_spot hc
      subst hspot
      refine ⟨b, off, rfl, cell_lt hc, fun i hi => ?_⟩
      rw [hlen] at hi
      have := hcell i (by omega)
      rw [addr_add] at this
      rw [this]
      simp [hi]
    · rw [hy]
      simp only [DataW.weights, Tryd.underlying25, lits_len, bytes5, List.mem_cons]
      left
      rw [List.length_take, List.length_drop]; omega
theorem ints_of {p : Int → Prop} : ∀ cs : List Value, (∀ i, i < cs.length → ∃ n, cs[i]? = some (.int .u8 n) ∧ p n) → ∃ zs : List Int, cs = row .u8 zs ∧ zs.length = cs.length ∧ ∀ n ∈ zs, p n
  | [], _ => ⟨[], rfl, rfl, fun n hn => by cases hn⟩
  | v :: r, h => by
    obtain ⟨n, e, hp⟩ := h 0 (by simp)
    obtain ⟨zs, e2, e3, e4⟩ := ints_of r (fun i hi => by
      obtain ⟨m, f1, f2⟩ := h (i + 1) (by simpa using hi)
      exact ⟨m, by simpa using f1, f2⟩)
    have ev : v = .int .u8 n := by simpa using e
    refine ⟨n :: zs, by rw [ev, e2]; rfl, by simp [e3], fun m hm => ?_⟩
    rcases List.mem_cons.1 hm with rfl | hm
    · exact hp
    · exact e4 m hm
theorem cells5 : Tryd.prog.cellsOf 5 = 1 := by kernel_rfl
theorem cells3 : Tryd.prog.cellsOf 3 = 1 := by kernel_rfl
theorem cells30 : Tryd.prog.cellsOf 30 = 1 := by kernel_rfl
theorem cells24 : Tryd.prog.cellsOf 24 = 20 := by kernel_rfl
theorem cells32 : Tryd.prog.cellsOf 32 = 22 := by kernel_rfl
/-- An id, opened. -/
theorem open_id {H : Type} {enc : TypeId × Value → H} {W : World} {m : Nat} {cs : List Value} {y : DataW H × List MemPlace} (h : DataW.trod enc Tryd.prog W 0 (fun _ => true) true m 24 cs = some y) :
    ∃ zs : List Int, cs = row .u8 zs ∧ zs.length = 20 ∧ ∀ n ∈ zs, 0 ≤ n ∧ n < 256 := by
  obtain ⟨xs, k, _, _, hl, hx, hf⟩ := DataW.trod_array Tryd.underlying24 h
  rw [cells24] at hl
  obtain ⟨zs, e1, e2, e3⟩ := ints_of (p := fun n => 0 ≤ n ∧ n < 256) cs (fun i hi => by
    have hi20 : i < 20 := by omega
    have h1 := hf i hi20
    rw [cells5, Nat.mul_one, List.getElem?_eq_getElem (by omega)] at h1
    obtain ⟨n, e, _, hw⟩ := DataW.trod_int Tryd.underlying5 h1
    refine ⟨n, ?_, ?_⟩
    · have h2 : (List.take 1 (List.drop i cs))[0]? = some (.int .u8 n) := by rw [e]; rfl
      rw [List.getElem?_take_of_lt (by omega), List.getElem?_drop, Nat.add_zero] at h2
      exact h2
    · have := bounds_u8 hw
      omega)
  exact ⟨zs, e1, by omega, e3⟩
section
variable [Inhabited Pn]
set_option maxRecDepth 100000 in
/-- A place, opened. -/
theorem open_pl {H : Type} {enc : TypeId × Value → H} {W : World} {m : Nat} {cs : List Value} {y : DataW H × List MemPlace} (h : DataW.trod enc Tryd.prog W 0 (fun _ => true) true m 32 cs = some y) :
    ∃ x : Pl, cs = plV x ∧ x.id.length = 20 ∧ (∀ n ∈ x.id, 0 ≤ n ∧ n < 256) ∧ 0 ≤ x.crc ∧ x.crc < 4294967296 := by
  obtain ⟨xs, n, _, hy, hlen, hxl, hf⟩ := DataW.trod_struct Tryd.underlying32 h
  rw [cells32] at hlen
  match xs, hxl with
  | [y0, y1, y2], _ =>
    have u0 : DataW.trod enc Tryd.prog W 0 (fun _ => true) true n 24 ((cs.drop 0).take (Tryd.prog.cellsOf 24)) = some y0 := hf 0 _ rfl
    have u1 : DataW.trod enc Tryd.prog W 0 (fun _ => true) true n 3 ((cs.drop 20).take (Tryd.prog.cellsOf 3)) = some y1 := hf 1 _ rfl
    have u2 : DataW.trod enc Tryd.prog W 0 (fun _ => true) true n 30 ((cs.drop 21).take (Tryd.prog.cellsOf 30)) = some y2 := hf 2 _ rfl
    rw [cells24, List.drop_zero] at u0
    rw [cells3] at u1
    rw [cells30] at u2
    obtain ⟨zs, e0, z1, z2⟩ := open_id u0
    obtain ⟨o, e1, _⟩ := DataW.trod_int und3 u1
    obtain ⟨c, e2, _, hw⟩ := DataW.trod_int und30 u2
    refine ⟨⟨zs, o, c⟩, ?_, z1, z2, by
      have := bounds_u32 hw
      show 0 ≤ c ∧ c < 4294967296
      omega⟩
    have s0 : cs = cs.take 20 ++ cs.drop 20 := (List.take_append_drop _ _).symm
    have s1 : cs.drop 20 = (cs.drop 20).take 1 ++ cs.drop 21 := by
      have := (List.take_append_drop 1 (cs.drop 20)).symm
      rwa [List.drop_drop] at this
    have s2 : cs.drop 21 = (cs.drop 21).take 1 := (List.take_of_length_le (by rw [List.length_drop]; omega)).symm
    rw [s0, s1, s2, e0, e1, e2]
    rfl
theorem list_of {p : Nat → Pl → Prop} : ∀ n : Nat, (∀ i, i < n → ∃ z, p i z) → ∃ l : List Pl, l.length = n ∧ ∀ i, i < n → p i (l.getD i p0)
  | 0, _ => ⟨[], rfl, fun i hi => by omega⟩
  | n + 1, h => by
    obtain ⟨l, h1, h2⟩ := list_of n (fun i hi => h i (by omega))
    obtain ⟨z, hz⟩ := h n (by omega)
    refine ⟨l ++ [z], by simp [h1], fun i hi => ?_⟩
    rcases Nat.lt_or_ge i n with h3 | h3
    · have e : (l ++ [z]).getD i p0 = l.getD i p0 := by
        rw [List.getD_eq_getElem?_getD, List.getD_eq_getElem?_getD, List.getElem?_append_left (by omega)]
      rw [e]
      exact h2 i h3
    · have e : i = n := by omega
      subst e
      have e2 : (l ++ [z]).getD i p0 = z := by
        rw [List.getD_eq_getElem?_getD, List.getElem?_append_right (by omega), h1, Nat.sub_self]
        rfl
      rw [e2]
      exact hz
set_option maxRecDepth 100000 in
/-- Entries, opened. -/
theorem open_pls {H : Type} {enc : TypeId × Value → H} {W : World} {m : Nat} {v : Value} {y : DataW H × List MemPlace} (h : DataW.trod enc Tryd.prog W 0 (fun _ => true) true m 22 [v] = some y) :
    ∃ (pa : Option Addr) (pc : Nat) (es : List Pl), v = .slice pa es.length pc ∧ Pp W pa pc es ∧ Wp es := by
  rcases Go.Deep.open_slice Tryd.underlying22 h with ⟨h0, _⟩ | ⟨a, len, cap, m, n, D, Pq, hc, hb, hl, hm, hmm, rfl, hx⟩
  · simp only [List.cons.injEq, and_true] at h0
    subst h0
    exact ⟨none, 0, [], rfl, ⟨Nat.le_refl _, (fun h => by cases h), fun _ => rfl⟩, fun x hx => by cases hx⟩
  · simp only [List.cons.injEq, and_true] at hc
    subst hc
    simp only [if_true] at hmm
    obtain ⟨b, off, spot⟩ := a
    obtain ⟨es, h1, h2⟩ := list_of (p := fun i z => (z.id.length = 20 ∧ (∀ n ∈ z.id, 0 ≤ n ∧ n < 256) ∧ 0 ≤ z.crc ∧ z.crc < 4294967296) ∧ ∀ j v, (plV z)[j]? = some v → W.cell? (((⟨b, off, spot⟩ : Addr).add (i * 22)).add j) = some v) len (fun i hi => by
      obtain ⟨cs', g1, g2⟩ := hx i (by omega)
      rw [cells32] at g1
      obtain ⟨_, hlen, hcell⟩ := World.cells?_some g1
      obtain ⟨z, e1, e2, e3⟩ := open_pl g2
      refine ⟨z, ⟨e2, e3⟩, fun j v hv => ?_⟩
      have hj : j < 22 := by
        have := (List.getElem?_eq_some_iff.1 hv).1
        rw [plV_len z e2] at this
        exact this
      rw [hcell j hj, e1]
      exact hv)
    have hw : Wp es := fun x hx => by
      obtain ⟨i, hi, e⟩ := List.getElem_of_mem hx
      have := (h2 i (by omega)).1
      rw [List.getD_eq_getElem?_getD, List.getElem?_eq_getElem hi] at this
      simp only [Option.getD_some] at this
      rw [e] at this
      exact this
    refine ⟨some ⟨b, off, spot⟩, cap, es, by rw [h1], ⟨by rw [h1]; exact hl, fun h0 => ?_, fun e => by cases e⟩, hw⟩
    rw [h1] at h0
    have c0 : W.cell? (((⟨b, off, spot⟩ : Addr).add (0 * 22)).add 0) = some (.int .u8 (hd (es.getD 0 p0))) := (h2 0 h0).2 0 _ (by
      have h20 := (h2 0 h0).1.1
      generalize es.getD 0 p0 = z at h20
      obtain ⟨id, o, c⟩ := z
      cases id with
      | nil => simp at h20
      | cons y r => rfl)
    have hspot : spot = none := by simpa [Addr.add] using World.cell?_spot c0
    subst hspot
    refine ⟨b, off, rfl, ?_, fun i hi j v hv => ?_⟩
    · have := cell_lt c0
      simpa [Addr.add] using this
    · rw [h1] at hi
      have := (h2 i hi).2 j v hv
      rw [addr_add, addr_add] at this
      exact this
set_option maxRecDepth 100000 in
theorem contract (H : Type) (enc : TypeId × Value → H) (W : World) (base : Nat) (args : Array Value) (ds gs : List (DataW H)) (before : List MemPlace)
    (hval : ∀ (j : Nat) t v, Tryd.f3.params[j]? = some t → args[j]? = some v → Value.okWide Tryd.prog W .any base t v)
    (hW : DataW.Whole enc Tryd.prog Tryd.f3.params.toList Rows.packIndexesSpec.vars false W args.toList ds gs before)
    (hL : laidMetH Tryd.prog Rows.packIndexesRow.laid W) :
    Calls Tryd.prog 3 args W fun e W' => ∃ v, e = .returned v ∧ Rows.packIndexesSpec.post enc Tryd.prog Tryd.f3 false true false false W args v W' := by
  have hW' := hW
  obtain ⟨p, q, hA0, hV, rfl, hfz, hnd⟩ := hW
  have hA : DataW.TrodAll enc Tryd.prog W 0 (fun _ => true) true Tryd.f3.params.toList args.toList ds p := hA0
  rw [params3] at hA hval
  obtain ⟨v0, vs0, d0, ds0, p0, q0, hargs, rfl, rfl, h0, r0⟩ := trodAll_cons hA
  obtain ⟨v1, vs1, d1, ds1, p1, q1, rfl, rfl, rfl, h1, r1⟩ := trodAll_cons r0
  obtain ⟨v2, vs2, d2, ds2, p2, q2, rfl, rfl, rfl, h2, r2⟩ := trodAll_cons r1
  obtain ⟨v3, vs3, d3, ds3, p3, q3, rfl, rfl, rfl, h3, r3⟩ := trodAll_cons r2
  obtain ⟨rfl, rfl, rfl⟩ := trodAll_nil r3
  obtain rfl : args = #[v0, v1, v2, v3] := by cases args; simp_all
  obtain ⟨rfl, rfl⟩ := trodVars_none hV
  have k0 := h0
  have k1 := h1
  have k2 := h2
  have k3 := h3
  have lt0 : ∀ x ∈ p0, x.block < W.heap.size := by obtain ⟨m, hm⟩ := k0; exact DataW.trod_lt m _ _ _ hm
  have lt1 : ∀ x ∈ p1, x.block < W.heap.size := by obtain ⟨m, hm⟩ := k1; exact DataW.trod_lt m _ _ _ hm
  have lt2 : ∀ x ∈ p2, x.block < W.heap.size := by obtain ⟨m, hm⟩ := k2; exact DataW.trod_lt m _ _ _ hm
  have lt3 : ∀ x ∈ p3, x.block < W.heap.size := by obtain ⟨m, hm⟩ := k3; exact DataW.trod_lt m _ _ _ hm
  obtain ⟨a0, len0, cap0, rfl⟩ := okWide_slice Tryd.underlying22 (hval 0 22 v0 rfl rfl)
  obtain ⟨x1, rfl, hx1⟩ := WideMaps.okWide_arr arrKey (hval 1 24 v1 rfl rfl)
  obtain ⟨a2, len2, cap2, rfl⟩ := okWide_slice Tryd.underlying25 (hval 2 25 v2 rfl rfl)
  obtain ⟨x3, rfl, hx3⟩ := WideMaps.okWide_arr arrKey (hval 3 24 v3 rfl rfl)
  obtain ⟨pa, pc, es, ev, hpe, hwf⟩ : ∃ (pa : Option Addr) (pc : Nat) (es : List Pl), Value.slice a0 len0 cap0 = .slice pa es.length pc ∧ Pp W pa pc es ∧ Wp es := by
    obtain ⟨fuel, hf⟩ := h0
    exact open_pls (y := (d0, p0)) hf
  obtain ⟨z1, rfl, zl1, zb1⟩ : ∃ zs : List Int, x1 = (row .u8 zs).toArray ∧ zs.length = 20 ∧ ∀ n ∈ zs, 0 ≤ n ∧ n < 256 := by
    obtain ⟨fuel, hf⟩ := h1
    obtain ⟨zs, e1, e2, e3⟩ := open_id (y := (d1, p1)) hf
    exact ⟨zs, Array.toList_inj.1 (by simpa [Value.cells] using e1), e2, e3⟩
  obtain ⟨t2, o2, _⟩ : ∃ t, One W (.slice a2 len2 cap2) t ∧ (t.2.2.length = 0 ∨ ∃ n, n ∈ d2.weights Tryd.prog 25 ∧ t.2.2.length ≤ n) := by
    obtain ⟨fuel, hf⟩ := h2
    exact open_one (y := (d2, p2)) hf
  obtain ⟨z3, rfl, zl3, zb3⟩ : ∃ zs : List Int, x3 = (row .u8 zs).toArray ∧ zs.length = 20 ∧ ∀ n ∈ zs, 0 ≤ n ∧ n < 256 := by
    obtain ⟨fuel, hf⟩ := h3
    obtain ⟨zs, e1, e2, e3⟩ := open_id (y := (d3, p3)) hf
    exact ⟨zs, Array.toList_inj.1 (by simpa [Value.cells] using e1), e2, e3⟩
  clear hA0
  have hg : Hand W := handle_of_laid hL
  obtain ⟨e2, y2, c2⟩ := o2
  have walk : Calls Tryd.prog 3 #[.slice a0 len0 cap0, .agg (row .u8 z1).toArray, .slice a2 len2 cap2, .agg (row .u8 z3).toArray] W fun e w' => e = .returned (.bool true) ∧ Below W.heap.size W w' := by
    rw [e2, ev]
    by_cases hk : es.length ≤ 200
    · by_cases hl : t2.2.2.length ≤ 9000
      · exact walkX_short pa pc es z1 t2.1 t2.2.1 t2.2.2 z3 W hk hl hwf hpe zl1 zb1 y2 c2 zl3 zb3 hg
      · exact walkX_long _ _ _ _ _ _ _ _ W (.inr (by omega))
    · exact walkX_long _ _ _ _ _ _ _ _ W (.inl (by omega))
  refine walk.mono fun e W' ⟨he, bel⟩ => ?_
  subst he
  exact ⟨_, rfl, _, _, _, [], _, [], hW', trodAll_mk1 (shut_bool Tryd.underlying4 _), (trodAll_cons_mk (Below.trod laidOut (by kernel_rfl) (of_decide_eq_true (by kernel_rfl)) k0 bel lt0) (trodAll_cons_mk (Below.trod laidOut (by kernel_rfl) (of_decide_eq_true (by kernel_rfl)) k1 bel lt1) (trodAll_cons_mk (Below.trod laidOut (by kernel_rfl) (of_decide_eq_true (by kernel_rfl)) k2 bel lt2) (trodAll_cons_mk (Below.trod laidOut (by kernel_rfl) (of_decide_eq_true (by kernel_rfl)) k3 bel lt3) trodAll_mk0)))), rfl, bel.frame _, fun h => by cases h⟩
end
/-- A WORLD FOR THE WITNESS: the variable's cell holds what its initialiser lays. -/
def layIn (w : World) : World :=
  { w with heap := w.heap.modify 0 fun
      | .cells _ t frozen => .cells #[.iface 98 (.agg #[.pointer (some ⟨2, 27, none⟩)])] t frozen
      | o => o }
def wit : Array Value := #[.slice none 0 0, .agg #[.int .u8 0, .int .u8 0, .int .u8 0, .int .u8 0, .int .u8 0, .int .u8 0, .int .u8 0, .int .u8 0, .int .u8 0, .int .u8 0, .int .u8 0, .int .u8 0, .int .u8 0, .int .u8 0, .int .u8 0, .int .u8 0, .int .u8 0, .int .u8 0, .int .u8 0, .int .u8 0], .slice none 0 0, .agg #[.int .u8 0, .int .u8 0, .int .u8 0, .int .u8 0, .int .u8 0, .int .u8 0, .int .u8 0, .int .u8 0, .int .u8 0, .int .u8 0, .int .u8 0, .int .u8 0, .int .u8 0, .int .u8 0, .int .u8 0, .int .u8 0, .int .u8 0, .int .u8 0, .int .u8 0, .int .u8 0]]
theorem laid_met (os : Os) : laidMetH Tryd.prog Rows.packIndexesRow.laid ((layIn (World.holding Tryd.prog os ⟨#[], #[], []⟩)).forCall (fun _ _ => 0) ⟨#[], wit, []⟩).memory :=
  laidMetH_of_parts (laidMet_nil _ _) (by kernel_rfl)
theorem reads (os : Os) {H : Type} (enc : TypeId × Value → H) : ∃ ds places, DataW.whole enc Tryd.prog ((layIn (World.holding Tryd.prog os ⟨#[], #[], []⟩)).forCall (fun _ _ => 0) ⟨#[], wit, []⟩).memory Tryd.f3.params.toList Rows.packIndexesSpec.vars false wit.toList 8 = some (ds, [], places) :=
  ⟨[.nil, .agg (List.replicate 20 (.lit (.int .u8 0))), .nil, .agg (List.replicate 20 (.lit (.int .u8 0)))], [], by kernel_rfl⟩

set_option maxRecDepth 100000 in
theorem lifted (os : Os) (started : os.Started) (H : Type) (enc : TypeId × Value → H) (F : Stop.Interp) :
    ReturnsInHanded {} Tryd.checked os 3 .any ((OpenSpec.ofChange Rows.packIndexesSpec).preRow enc Tryd.prog Tryd.f3 Rows.packIndexesRow.domain false Rows.packIndexesRow.laid) (((OpenSpec.ofChange Rows.packIndexesSpec).at F).post enc Tryd.prog Tryd.f3 false true false false) := by
  obtain ⟨ds, places, hx⟩ := reads os enc
  refine returnsInHanded_of_row (C := Tryd.checked) (s := OpenSpec.ofChange Rows.packIndexesSpec) own started (by kernel_rfl) Tryd.func3
    (witness_row_at (enc := enc) (C := Tryd.checked) false (layIn (World.holding Tryd.prog os ⟨#[], #[], []⟩)) wit rfl (by kernel_rfl) (by kernel_rfl) (by kernel_rfl)
      (OpenSpec.preRow_of_cond 8 hx (by kernel_rfl) (fun k hk => by cases hk) (by kernel_rfl) (laid_met os))) ?_
  intro W base args ds gs before hval hW _ _ _ hL _ _
  letI : Inhabited Pn := ⟨⟨p0, rfl⟩⟩
  exact contract H enc W base args ds gs before hval hW hL

theorem said : Rows.PackIndexesSaid :=
  OpenClaim.holds_of_cond 3 Tryd.f3 rfl rfl rfl rfl rfl rfl rfl ⟨rfl, rfl, rfl, rfl, rfl⟩ rfl rfl rfl rfl rfl (by kernel_rfl) Tryd.func3 (by kernel_rfl)
    (of_decide_eq_true (by kernel_rfl)) (by unfold Func.isWrapper; first | (rw [if_pos (by decide +kernel)]; kernel_rfl) | (rw [if_neg (by decide +kernel)]; exact ⟨rfl, rfl⟩))
    (fun os started H enc _ F => by rw [OpenClaim.pre_eq_preRow]; exact lifted os started H enc F)

theorem plain (f : FuncId) (fn : Func) (hf : Tryd.pinned.checked.prog.funcNamed "gitlike/gitlikelaw5.PackIndexes" = some f) (hfn : Tryd.pinned.checked.prog.funcs[f]? = some fn) :
    true = Tryd.pinned.checked.prog.looks [] ∧ ∀ (j : Nat) t, fn.params[j]? = some t → Tryd.pinned.checked.prog.wantsStandIn t = false := by
  obtain rfl : f = 3 := Option.some.inj ((show Tryd.prog.funcNamed "gitlike/gitlikelaw5.PackIndexes" = some 3 by kernel_rfl).symm.trans hf) |>.symm
  obtain rfl : fn = Tryd.f3 := (Option.some.inj (Tryd.func3.symm.trans hfn)).symm
  refine ⟨by kernel_rfl, fun j t ht => ?_⟩
  rw [params3] at ht
  have hm : t = 22 ∨ t = 24 ∨ t = 25 := by
    have := Array.mem_of_getElem? ht
    simp only [List.mem_toArray, List.mem_cons, List.not_mem_nil, or_false] at this
    rcases this with h | h | h | h
    · exact .inl h
    · exact .inr (.inl h)
    · exact .inr (.inr h)
    · exact .inr (.inl h)
  rcases hm with rfl | rfl | rfl
  · exact (show Tryd.prog.wantsStandIn 22 = false by kernel_rfl)
  · exact (show Tryd.prog.wantsStandIn 24 = false by kernel_rfl)
  · exact (show Tryd.prog.wantsStandIn 25 = false by kernel_rfl)

end Go.Proofs.YtdfihfmmfmoabaaDoor.Indexes
namespace Go.Proofs.YtdfihfmmfmoabaaDoor
/-- THE CARD -/
theorem packIndexes_card : Rows.PackIndexesCardSaid :=
  Claim7.holds_tied_plain_at .later [] _ _ _ _ Indexes.said (fun _ h => by cases h) (by kernel_rfl) (fun _ h => by cases h) packIndexes_row_tie rfl ⟨rfl, rfl⟩ (by kernel_rfl) rfl Indexes.plain (by kernel_rfl)
#print axioms packIndexes_card
end Go.Proofs.YtdfihfmmfmoabaaDoor
