/- What is handed in, opened. -/
import Derived.Test.YtjgjeedablgmeaaDoorGrZ
import Derived.Test.YtjgjeedablgmeaaDoorCards
import Derived.Test.YtjgjeedablgmeaaDoorTie
import Derived.WalkKit
import Derived.ProofKit
import Derived.OpenShut
import Derived.Below
import Derived.Deep.DeepHandedRow
import Derived.Lib.LaidTab
import Derived.LaidLaws
import Derived.LaidHandle
import Derived.WideKeyArr2
import Derived.ChangeMaps5
import Derived.Deep.Slices
namespace Go.Proofs.YtjgjeedablgmeaaDoor.Opn
open Go.ChangeShapes Go.WideShapes Go.ChangeAt Go.RowKit
set_option linter.unusedVariables false
set_option linter.unusedSectionVars false
theorem bytes42 : Tryd.prog.bytesOf 42 = 20 := by kernel_rfl
theorem own : ownKnob Tryd.prog.godebug = none := by kernel_rfl
theorem laidOut : laidOutB Tryd.prog = true := by kernel_rfl
theorem et : Tryd.prog.globalNamed "errors.errorType" = some 0 := by kernel_rfl
theorem rt : (Tryd.prog.cutTypes.find? (·.1 == "internal/reflectlite.rtype")).map (·.2) = some 112 := by kernel_rfl
theorem oneRow : ((List.range 194).filter fun t => Tryd.prog.rowNamed t [101, 114, 114, 111, 114]) = [25] := by kernel_rfl
theorem tsize : Tryd.prog.types.size = 194 := by kernel_rfl
theorem cell_lt {w : World} {a : Addr} {v : Value} (h : w.cell? a = some v) : a.block < w.heap.size := by
  rcases Nat.lt_or_ge a.block w.heap.size with h' | h'
  · exact h'
  · simp [World.cell?, Array.getElem?_eq_none h'] at h
theorem bytes5 : Tryd.prog.bytesOf 5 = 1 := by kernel_rfl
theorem lits_len {H : Type} (k : IntKind) (l : List Int) : (lits (H := H) k l).length = l.length := by simp [lits]
theorem ints_of {p : Int → Prop} : ∀ cs : List Value, (∀ i, i < cs.length → ∃ n, cs[i]? = some (.int .u8 n) ∧ p n) → ∃ zs : List Int, cs = row .u8 zs ∧ zs.length = cs.length ∧ ∀ n ∈ zs, p n
  | [], _ => ⟨[], rfl, rfl, fun n hn => by cases hn⟩
  | v :: r, h => by
    obtain ⟨n, e, hp⟩ := h 0 (by simp)
    obtain ⟨zs, e2, e3, e4⟩ := ints_of r (fun i hi => by
      obtain ⟨m, f1, f2⟩ := h (i + 1) (by simpa using hi)
      exact ⟨m, by simpa using f1, f2⟩)
    have ev : v = .int .u8 n := by simpa using e
    refine ⟨n :: zs, by rw [ev, e2]; rfl, by simp [e3], fun m hm => ?_⟩
    rcases List.mem_cons.1 hm with rfl | hm
    · exact hp
    · exact e4 m hm
theorem c5 : Tryd.prog.cellsOf 5 = 1 := by kernel_rfl
theorem cells42 : Tryd.prog.cellsOf 42 = 20 := by kernel_rfl
theorem cells53 : Tryd.prog.cellsOf 53 = 22 := by kernel_rfl
theorem cells32 : Tryd.prog.cellsOf 32 = 1 := by kernel_rfl
theorem cells2 : Tryd.prog.cellsOf 2 = 1 := by kernel_rfl
theorem und2 : Tryd.prog.underlying 2 = some (.int .i64) := by kernel_rfl
theorem open_id {H : Type} {enc : TypeId × Value → H} {W : World} {m : Nat} {cs : List Value} {y : DataW H × List MemPlace} (h : DataW.trod enc Tryd.prog W 0 (fun _ => true) true m 42 cs = some y) :
    ∃ zs : List Int, cs = row .u8 zs ∧ zs.length = 20 ∧ ∀ n ∈ zs, 0 ≤ n ∧ n < 256 := by
  obtain ⟨xs, k, _, _, hl, hx, hf⟩ := DataW.trod_array Tryd.underlying42 h
  rw [cells42] at hl
  obtain ⟨zs, e1, e2, e3⟩ := ints_of (p := fun n => 0 ≤ n ∧ n < 256) cs (fun i hi => by
    have hi20 : i < 20 := by omega
    have h1 := hf i hi20
    rw [c5, Nat.mul_one, List.getElem?_eq_getElem (by omega)] at h1
    obtain ⟨n, e, _, hw⟩ := DataW.trod_int Tryd.underlying5 h1
    refine ⟨n, ?_, ?_⟩
    · have h2 : (List.take 1 (List.drop i cs))[0]? = some (.int .u8 n) := by rw [e]; rfl
      rw [List.getElem?_take_of_lt (by omega), List.getElem?_drop, Nat.add_zero] at h2
      exact h2
    · have := bounds_u8 hw
      omega)
  exact ⟨zs, e1, by omega, e3⟩
theorem list_ofI {p : Nat → (List Int) → Prop} : ∀ n : Nat, (∀ i, i < n → ∃ z, p i z) → ∃ l : List (List Int), l.length = n ∧ ∀ i, i < n → p i (l.getD i [])
  | 0, _ => ⟨[], rfl, fun i hi => by omega⟩
  | n + 1, h => by
    obtain ⟨l, h1, h2⟩ := list_ofI n (fun i hi => h i (by omega))
    obtain ⟨z, hz⟩ := h n (by omega)
    refine ⟨l ++ [z], by simp [h1], fun i hi => ?_⟩
    rcases Nat.lt_or_ge i n with h3 | h3
    · have e : (l ++ [z]).getD i [] = l.getD i [] := by
        rw [List.getD_eq_getElem?_getD, List.getD_eq_getElem?_getD, List.getElem?_append_left (by omega)]
      rw [e]
      exact h2 i h3
    · have e : i = n := by omega
      subst e
      have e2 : (l ++ [z]).getD i [] = z := by
        rw [List.getD_eq_getElem?_getD, List.getElem?_append_right (by omega), h1, Nat.sub_self]
        rfl
      rw [e2]
      exact hz
theorem list_ofN {p : Nat → Nd → Prop} : ∀ n : Nat, (∀ i, i < n → ∃ z, p i z) → ∃ l : List Nd, l.length = n ∧ ∀ i, i < n → p i (l.getD i nd0)
  | 0, _ => ⟨[], rfl, fun i hi => by omega⟩
  | n + 1, h => by
    obtain ⟨l, h1, h2⟩ := list_ofN n (fun i hi => h i (by omega))
    obtain ⟨z, hz⟩ := h n (by omega)
    refine ⟨l ++ [z], by simp [h1], fun i hi => ?_⟩
    rcases Nat.lt_or_ge i n with h3 | h3
    · have e : (l ++ [z]).getD i nd0 = l.getD i nd0 := by
        rw [List.getD_eq_getElem?_getD, List.getD_eq_getElem?_getD, List.getElem?_append_left (by omega)]
      rw [e]
      exact h2 i h3
    · have e : i = n := by omega
      subst e
      have e2 : (l ++ [z]).getD i nd0 = z := by
        rw [List.getD_eq_getElem?_getD, List.getElem?_append_right (by omega), h1, Nat.sub_self]
        rfl
      rw [e2]
      exact hz
set_option maxRecDepth 100000 in
/-- Ids, opened. -/
theorem open_ids {H : Type} {enc : TypeId × Value → H} {W : World} {m : Nat} {v : Value} {y : DataW H × List MemPlace} (h : DataW.trod enc Tryd.prog W 0 (fun _ => true) true m 32 [v] = some y) :
    ∃ (pa : Option Addr) (pc : Nat) (ids : List (List Int)), v = .slice pa ids.length pc ∧ Pa W pa pc ids ∧ (∀ x ∈ ids, IdW x) ∧ (ids.length = 0 ∨ ∃ n, n ∈ y.1.weights Tryd.prog 32 ∧ ids.length ≤ n) := by
  rcases Go.Deep.open_slice Tryd.underlying32 h with ⟨h0, _⟩ | ⟨a, len, cap, m, n, D, Pl, hc, hb, hl, hm, hmm, rfl, hx⟩
  · simp only [List.cons.injEq, and_true] at h0
    subst h0
    exact ⟨none, 0, [], rfl, ⟨Nat.le_refl _, (fun h => by cases h), fun _ => rfl⟩, (fun x hx => by cases hx), .inl rfl⟩
  · simp only [List.cons.injEq, and_true] at hc
    subst hc
    simp only [if_true] at hmm
    obtain ⟨b, off, spot⟩ := a
    obtain ⟨ids, h1, h2⟩ := list_ofI (p := fun i z => (z.length = 20 ∧ ∀ n ∈ z, 0 ≤ n ∧ n < 256) ∧ ∀ j v, (row .u8 z)[j]? = some v → W.cell? (((⟨b, off, spot⟩ : Addr).add (i * 20)).add j) = some v) len (fun i hi => by
      obtain ⟨cs', g1, g2⟩ := hx i (by omega)
      rw [cells42] at g1
      obtain ⟨_, hlen, hcell⟩ := World.cells?_some g1
      obtain ⟨zs, e1, e2, e3⟩ := open_id g2
      refine ⟨zs, ⟨e2, e3⟩, fun j v hv => ?_⟩
      have hj : j < 20 := by
        have := (List.getElem?_eq_some_iff.1 hv).1
        rw [row_len] at this
        omega
      rw [hcell j hj, e1]
      exact hv)
    have hw : ∀ x ∈ ids, IdW x := fun x hx => by
      obtain ⟨i, hi, e⟩ := List.getElem_of_mem hx
      have := (h2 i (by omega)).1
      rw [List.getD_eq_getElem?_getD, List.getElem?_eq_getElem hi] at this
      simp only [Option.getD_some] at this
      rw [e] at this
      exact this
    refine ⟨some ⟨b, off, spot⟩, cap, ids, by rw [h1], ⟨by rw [h1]; exact hl, fun h0 => ?_, fun e => by cases e⟩, hw, .inr ⟨_, List.mem_cons_self, ?_⟩⟩
    rotate_left
    · rw [bytes42, h1, List.length_map, List.length_map, List.length_range, List.length_range]; omega
    rw [h1] at h0
    have c0 : W.cell? (((⟨b, off, spot⟩ : Addr).add (0 * 20)).add 0) = some ((row .u8 (ids.getD 0 []))[0]'(by rw [row_len, (h2 0 h0).1.1]; omega)) := (h2 0 h0).2 0 _ (List.getElem?_eq_getElem _)
    have hspot : spot = none := by simpa [Addr.add] using World.cell?_spot c0
    subst hspot
    refine ⟨b, off, rfl, ?_, fun i hi j v hv => ?_⟩
    · have := cell_lt c0
      simpa [Addr.add] using this
    · rw [h1] at hi
      have := (h2 i hi).2 j v hv
      rw [addr_add, addr_add] at this
      exact this
set_option maxRecDepth 100000 in
/-- A node, opened. -/
theorem open_nd {H : Type} {enc : TypeId × Value → H} {W : World} {m : Nat} {cs : List Value} {y : DataW H × List MemPlace} (h : DataW.trod enc Tryd.prog W 0 (fun _ => true) true m 53 cs = some y) :
    ∃ x : Nd, cs = ndV x ∧ NdW W x := by
  obtain ⟨xs, n, _, hy, hlen, hxl, hf⟩ := DataW.trod_struct Tryd.underlying53 h
  rw [cells53] at hlen
  match xs, hxl with
  | [y0, y1, y2], _ =>
    have u0 : DataW.trod enc Tryd.prog W 0 (fun _ => true) true n 42 ((cs.drop 0).take (Tryd.prog.cellsOf 42)) = some y0 := hf 0 _ rfl
    have u1 : DataW.trod enc Tryd.prog W 0 (fun _ => true) true n 32 ((cs.drop 20).take (Tryd.prog.cellsOf 32)) = some y1 := hf 1 _ rfl
    have u2 : DataW.trod enc Tryd.prog W 0 (fun _ => true) true n 2 ((cs.drop 21).take (Tryd.prog.cellsOf 2)) = some y2 := hf 2 _ rfl
    rw [cells42, List.drop_zero] at u0
    rw [cells32] at u1
    rw [cells2] at u2
    obtain ⟨v, ev⟩ : ∃ v, (cs.drop 20).take 1 = [v] := by
      rw [List.drop_eq_getElem_cons (by omega)]
      exact ⟨_, rfl⟩
    rw [ev] at u1
    obtain ⟨zs, e0, z1, z2⟩ := open_id u0
    obtain ⟨pa, pc, ids, e1, hpa, hwi, _⟩ := open_ids u1
    obtain ⟨o, e2, _⟩ := DataW.trod_int und2 u2
    refine ⟨⟨zs, ids, pa, pc, o⟩, ?_, ⟨⟨z1, z2⟩, hwi, hpa, trivial⟩⟩
    have s0 : cs = cs.take 20 ++ cs.drop 20 := (List.take_append_drop _ _).symm
    have s1 : cs.drop 20 = (cs.drop 20).take 1 ++ cs.drop 21 := by
      have := (List.take_append_drop 1 (cs.drop 20)).symm
      rwa [List.drop_drop] at this
    have s2 : cs.drop 21 = (cs.drop 21).take 1 := (List.take_of_length_le (by rw [List.length_drop]; omega)).symm
    rw [s0, s1, s2, e0, ev, e1, e2]
    rfl
set_option maxRecDepth 100000 in
/-- Nodes, opened. -/
theorem open_nds {H : Type} {enc : TypeId × Value → H} {W : World} {m : Nat} {v : Value} {y : DataW H × List MemPlace} (h : DataW.trod enc Tryd.prog W 0 (fun _ => true) true m 22 [v] = some y) :
    ∃ (pa : Option Addr) (pc : Nat) (l : List Nd), v = .slice pa l.length pc ∧ Pn W pa pc l ∧ ∀ x ∈ l, NdW W x := by
  rcases Go.Deep.open_slice Tryd.underlying22 h with ⟨h0, _⟩ | ⟨a, len, cap, m, n, D, Pq, hc, hb, hl, hm, hmm, rfl, hx⟩
  · simp only [List.cons.injEq, and_true] at h0
    subst h0
    exact ⟨none, 0, [], rfl, ⟨Nat.le_refl _, (fun h => by cases h), fun _ => rfl⟩, fun x hx => by cases hx⟩
  · simp only [List.cons.injEq, and_true] at hc
    subst hc
    simp only [if_true] at hmm
    obtain ⟨b, off, spot⟩ := a
    obtain ⟨es, h1, h2⟩ := list_ofN (p := fun i z => NdW W z ∧ ∀ j v, (ndV z)[j]? = some v → W.cell? (((⟨b, off, spot⟩ : Addr).add (i * 22)).add j) = some v) len (fun i hi => by
      obtain ⟨cs', g1, g2⟩ := hx i (by omega)
      rw [cells53] at g1
      obtain ⟨_, hlen, hcell⟩ := World.cells?_some g1
      obtain ⟨z, e1, e2⟩ := open_nd g2
      refine ⟨z, e2, fun j v hv => ?_⟩
      have hj : j < 22 := by
        have := (List.getElem?_eq_some_iff.1 hv).1
        rw [ndV_len z e2.id.1] at this
        exact this
      rw [hcell j hj, e1]
      exact hv)
    have hw : ∀ x ∈ es, NdW W x := fun x hx => by
      obtain ⟨i, hi, e⟩ := List.getElem_of_mem hx
      have := (h2 i (by omega)).1
      rw [List.getD_eq_getElem?_getD, List.getElem?_eq_getElem hi] at this
      simp only [Option.getD_some] at this
      rw [e] at this
      exact this
    refine ⟨some ⟨b, off, spot⟩, cap, es, by rw [h1], ⟨by rw [h1]; exact hl, fun h0 => ?_, fun e => by cases e⟩, hw⟩
    rw [h1] at h0
    have c0 : W.cell? (((⟨b, off, spot⟩ : Addr).add (0 * 22)).add 0) = some ((ndV (es.getD 0 nd0))[0]'(by rw [ndV_len _ (h2 0 h0).1.id.1]; omega)) := (h2 0 h0).2 0 _ (List.getElem?_eq_getElem _)
    have hspot : spot = none := by simpa [Addr.add] using World.cell?_spot c0
    subst hspot
    refine ⟨b, off, rfl, ?_, fun i hi j v hv => ?_⟩
    · have := cell_lt c0
      simpa [Addr.add] using this
    · rw [h1] at hi
      have := (h2 i hi).2 j v hv
      rw [addr_add, addr_add] at this
      exact this
end Go.Proofs.YtjgjeedablgmeaaDoor.Opn
