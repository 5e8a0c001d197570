/- '[]byte(s)', and 'append' to it. -/
import Derived.Test.YtbpdielmdhhdfaaGreatDoorHdB
import Derived.Test.YtbpdielmdhhdfaaGreatDoorDigA
import Derived.ArgAppend
import Derived.Laws.IdiomStrings
namespace Go.Proofs.YtbpdielmdhhdfaaGreatDoor
open Go.RowKit
set_option linter.unusedVariables false
set_option linter.unusedSimpArgs false
/-- A string's bytes, as numbers. -/
def nums (l : List UInt8) : List Int := l.map fun b => (b.toNat : Int)
theorem nums_len (l : List UInt8) : (nums l).length = l.length := by simp [nums]
theorem nums_isB (l : List UInt8) : IsB (nums l) := by
  intro x hx
  obtain ⟨b, _, rfl⟩ := List.mem_map.1 hx
  have := b.toNat_lt
  omega
theorem nums_app (l m : List UInt8) : nums (l ++ m) = nums l ++ nums m := by simp [nums]
/-- A slice at the head of a block: its bytes, and room behind them. -/
structure Mk (w : World) (g cap : Nat) (xs : List Int) : Prop where
  lt : g < w.heap.size
  capl : xs.length ≤ cap
  at_ : At w g 0 xs
  spare : ∀ i, xs.length ≤ i → i < cap → (w.cell? ⟨g, i, none⟩).isSome = true ∧ w.frozen? ⟨g, i, none⟩ = false
/-- What is known of a slice of bytes, of whatever address. -/
structure Sl (w : World) (a : Option Addr) (cap : Nat) (l : List Int) : Prop where
  capl : l.length ≤ cap
  at_ : 0 < l.length → ∃ b off, a = some ⟨b, off, none⟩ ∧ b < w.heap.size ∧ At w b off l
  nil : a = none → cap = 0
theorem Sl.below {w w' : World} {a : Option Addr} {cap : Nat} {l : List Int} (h : Sl w a cap l) (hb : Below w.heap.size w w') : Sl w' a cap l :=
  ⟨h.capl, fun h0 => by
    obtain ⟨b, off, e1, e2, e3⟩ := h.at_ h0
    exact ⟨b, off, e1, Nat.lt_of_lt_of_le e2 hb.size, fun i hi => (hb.cell (p := ⟨b, off + i, none⟩) e2).trans (e3 i hi)⟩, h.nil⟩
theorem conv_mk (l : List UInt8) (w : World) : ∃ cap w', (convert 9 23 (.string ⟨l.toArray⟩)).run Tryz.prog w = .ok (.slice (some ⟨w.heap.size, 0, none⟩) l.length cap) w' ∧ Mk w' w.heap.size cap (nums l) ∧ Below w.heap.size w w' ∧ w'.heap.size = w.heap.size + 1 := by
  have hr := run_bytes_of_string (P := Tryz.prog) w 9 23 5 ⟨l.toArray⟩ Tryz.underlying9 Tryz.underlying23 Tryz.underlying5
  have hsz : (⟨l.toArray⟩ : ByteArray).size = l.length := by simp [ByteArray.size]
  rw [hsz] at hr
  have hge := grownCap_ge w l.length 0 5
  generalize grownCap w l.length 0 5 = cap at hr hge
  have hrs : (bytesRow ⟨l.toArray⟩ cap).size = cap := by simp [bytesRow, ByteArray.size]; omega
  rw [hrs] at hr
  have h1 : ∀ i, i < l.length → (bytesRow ⟨l.toArray⟩ cap)[i]? = some (.int .u8 ((nums l).getD i 0)) := fun i hi => by
    simp [bytesRow, nums, hi, Array.getElem?_append]
  generalize bytesRow ⟨l.toArray⟩ cap = R at hr hrs h1
  have hh : (w.drew.alloc (.cells R 5 (cap, cap + 1))).heap[w.heap.size]? = some (.cells R 5 (cap, cap + 1)) := by
    show (w.heap.push _)[w.heap.size]? = _
    simp
  refine ⟨cap, _, hr, ⟨by simp, by rw [nums_len]; exact hge, ?_, ?_⟩, ?_, by simp⟩
  · intro i hi
    rw [nums_len] at hi
    rw [Nat.zero_add, World.cell?, hh]
    exact h1 i hi
  · intro i g1 g2
    constructor
    · rw [World.cell?, hh]
      show (R[i]?).isSome = true
      rw [Array.getElem?_eq_getElem (by omega)]
      rfl
    · rw [World.frozen?, hh]
      simp
      omega
  · exact ⟨rfl, rfl, rfl, by simp, fun k hk => by
      show (w.heap.push _)[k]? = _
      rw [Array.getElem?_push, if_neg (by omega)]⟩
/-- 'append' to it. -/
theorem app_mk (w : World) (g cap : Nat) (xs l : List Int) (a : Option Addr) (c : Nat) (hm : Mk w g cap xs) (hS : Sl w a c l) (hl : xs.length + l.length ≤ 1000000) :
    ∃ g' cap' w', (Builtin.append_ #[23, 23] 23 #[.slice (some ⟨g, 0, none⟩) xs.length cap, .slice a l.length c]).run Tryz.prog w = .ok (.slice (some ⟨g', 0, none⟩) (xs.length + l.length : Nat) cap') w' ∧
      At w' g' 0 (xs ++ l) ∧ xs.length + l.length ≤ cap' ∧ g' < w'.heap.size ∧ (g' = g ∨ w.heap.size ≤ g') ∧ w.grownBy w' (some g) := by
  obtain ⟨i5, hi, hz0, hz1, hz2⟩ := info_parts Tryz.info5
  by_cases h0 : l.length = 0
  · have hl0 : l = [] := List.length_eq_zero_iff.1 h0
    subst hl0
    refine ⟨g, cap, w, ?_, by simpa using hm.at_, by simpa using hm.capl, hm.lt, .inl rfl, ⟨rfl, rfl, rfl, Nat.le_refl _, fun _ _ _ => rfl⟩⟩
    have hc := hm.capl
    cases a with
    | none => simp [Builtin.append_, run_underlying Tryz.underlying23, sizeOf, typeInfo, hi, Builtin.lenOf, Builtin.firstCells, hc, storeCells]
    | some ad => simp [Builtin.append_, run_underlying Tryz.underlying23, sizeOf, typeInfo, hi, Builtin.lenOf, Builtin.firstCells, hc, storeCells, loadCells, loadCellsFrom]
  · obtain ⟨b, off, rfl, hb, hat⟩ := hS.at_ (by omega)
    have hnews : ∀ j u, (l.map (Value.int .u8))[j]? = some u → w.cell? ((⟨b, off, none⟩ : Addr).add j) = some u := fun j z hj => by
      rw [List.getElem?_map] at hj
      cases hc : l[j]? with
      | none => rw [hc] at hj; cases hj
      | some y =>
        rw [hc] at hj; cases hj
        have hlt := (List.getElem?_eq_some_iff.1 hc).1
        have := hat j hlt
        rw [addr_add]
        simpa [List.getD_eq_getElem?_getD, hc] using this
    have h1c : ∀ u ∈ l.map (Value.int .u8), u.oneCell' = true := ints_oneCell .u8 l
    by_cases hroom : xs.length + l.length ≤ cap
    · have hsp : ∀ j, j < (l.map (Value.int .u8)).length → (w.cell? ⟨g, 0 + xs.length * i5.size + j, none⟩).isSome = true := fun j hj => by
        rw [hz1, Nat.zero_add, Nat.mul_one]
        rw [List.length_map] at hj
        exact (hm.spare (xs.length + j) (by omega) (by omega)).1
      have hr := run_append_room_cells (P := Tryz.prog) w 23 23 5 i5 Tryz.underlying23 hi g 0 xs.length cap ⟨b, off, none⟩ l.length c (l.map (Value.int .u8)) (by rw [hz1]; simp) hnews h1c hroom hsp
        (fun j hj => by
          rw [hz1, Nat.zero_add, Nat.mul_one]
          rw [List.length_map] at hj
          exact (hm.spare (xs.length + j) (by omega) (by omega)).2)
      rw [hz1, Nat.zero_add, Nat.mul_one] at hr
      refine ⟨g, cap, _, hr, ?_, hroom, ?_, .inl rfl, grown_setCells g _ _ _ _ ⟨rfl, rfl, rfl, Nat.le_refl _, fun _ _ _ => rfl⟩⟩
      · intro i hi'
        rw [Nat.zero_add]
        by_cases hlt : i < xs.length
        · rw [World.cell?_setCells_out _ _ _ _ _ (fun _ _ => .inl hlt)]
          have := hm.at_ i hlt
          rw [Nat.zero_add] at this
          rw [this]
          simp [List.getD_eq_getElem?_getD, List.getElem?_append, hlt]
        · obtain ⟨j, rfl⟩ : ∃ j, i = xs.length + j := ⟨i - xs.length, by omega⟩
          rw [List.length_append] at hi'
          have hj : j < (l.map (Value.int .u8)).length := by rw [List.length_map]; omega
          rw [World.cell?_setCells_in _ _ _ _ (fun j hj => by have := hsp j hj; rwa [hz1, Nat.zero_add, Nat.mul_one] at this) j hj]
          simp [List.getD_eq_getElem?_getD, List.getElem?_append, show j < l.length by omega]
      · have : w.heap.size ≤ (w.setCells g xs.length (l.map (Value.int .u8))).heap.size := (grown_setCells g (l.map (Value.int .u8)) xs.length w w ⟨rfl, rfl, rfl, Nat.le_refl _, fun _ _ _ => rfl⟩).size
        exact Nat.lt_of_lt_of_le hm.lt this
    · obtain ⟨v', w', hr, hown, hg⟩ := run_append_arg_grows (P := Tryz.prog) w 23 23 5 i5 (.int .u8 0) 1 1 Tryz.underlying23 hi hz0 hz1 hz2 rfl (by omega) ⟨g, 0, none⟩ xs.length cap (xs.map (Value.int .u8)) (by simp)
        (fun j u hj => by
          rw [List.getElem?_map] at hj
          cases hc : xs[j]? with
          | none => rw [hc] at hj; cases hj
          | some y =>
            rw [hc] at hj; cases hj
            have hlt := (List.getElem?_eq_some_iff.1 hc).1
            have := hm.at_ j hlt
            rw [addr_add]
            simpa [List.getD_eq_getElem?_getD, hc] using this)
        ⟨b, off, none⟩ l.length c (l.map (Value.int .u8)) (by simp) hnews (by omega) (by unfold maxLen; omega) (by omega)
      obtain ⟨g', cap', rfl, h1, h2⟩ := hown.form (by omega)
      refine ⟨g', cap', w', hr, ?_, ?_, h2, .inr h1, ⟨hg.os, hg.tape, hg.output, hg.size, fun k hk _ => hg.block k hk (by simp)⟩⟩
      · intro i hi'
        rw [Nat.zero_add, hown.cellAt i (by simpa using hi'), ← List.map_append, List.getElem?_map, List.getElem?_eq_getElem hi']
        simp [List.getD_eq_getElem?_getD, List.getElem?_eq_getElem hi']
      · obtain ⟨_, ⟨hv, _⟩ | ⟨g2, cap2, cur, hv, _, _, hnc, _⟩⟩ := hown
        · cases hv
        · simp only [Value.slice.injEq] at hv
          omega
end Go.Proofs.YtbpdielmdhhdfaaGreatDoor
