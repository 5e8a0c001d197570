/- What is handed in: bytes, opened. -/
import Derived.Test.YtakddciegnkpdaaDfS
import Derived.Test.YtakddciegnkpdaaRows
import Derived.WalkKit
import Derived.ProofKit
import Derived.OpenShut
import Derived.Below
import Derived.Deep.DeepHandedRow
import Derived.LaidLaws
namespace Go.Proofs.Ytakddciegnkpdaa
open Go.ChangeShapes Go.WideShapes Go.ChangeAt Go.RowKit
set_option linter.unusedVariables false
theorem own : ownKnob Try.prog.godebug = none := by kernel_rfl
theorem laidOut : laidOutB Try.prog = true := by kernel_rfl
theorem cell_lt {w : World} {a : Addr} {v : Value} (h : w.cell? a = some v) : a.block < w.heap.size := by
  rcases Nat.lt_or_ge a.block w.heap.size with h' | h'
  · exact h'
  · simp [World.cell?, Array.getElem?_eq_none h'] at h
def bts (zs : List Int) : Str := zs.map (fun n => UInt8.ofNat n.toNat)
theorem u8_back (n : Int) (h : 0 ≤ n ∧ n ≤ 255) : ((UInt8.ofNat n.toNat).toNat : Int) = n := by
  rw [UInt8.toNat_ofNat']
  have : n.toNat % 2 ^ 8 = n.toNat := Nat.mod_eq_of_lt (by omega)
  rw [this]
  omega
/-- A slice of bytes that was handed in. -/
def One (W : World) (v : Value) : Prop := ∃ (a : Option Addr) (cap : Nat) (s : Str), v = .slice a s.length cap ∧ s.length ≤ maxLen ∧ PB W a cap s
theorem open_one {H : Type} {enc : TypeId × Value → H} {W : World} {m : Nat} {v : Value} {y : DataW H × List MemPlace} (h : DataW.trod enc Try.prog W 0 (fun _ => true) true m 22 [v] = some y) : One W v := by
  rcases open_ints Try.underlying22 Try.underlying5 (by kernel_rfl) h with ⟨hcs, _⟩ | ⟨x, l, c, zs, hcs, _, hl, hm, hz, hy, hcell, hwz⟩
  · simp only [List.cons.injEq, and_true] at hcs
    subst hcs
    exact ⟨none, 0, [], rfl, Nat.zero_le _, ⟨Nat.le_refl _, fun h => absurd h (by simp), fun _ => rfl⟩⟩
  · simp only [List.cons.injEq, and_true] at hcs
    subst hcs
    simp only [if_true] at hz
    have hlen : (bts (zs.take l)).length = l := by unfold bts; rw [List.length_map, List.length_take]; omega
    refine ⟨some x, c, bts (zs.take l), by rw [hlen], by rw [hlen]; omega, by rw [hlen]; exact hl, fun hpos => ?_, fun h => by cases h⟩
    rw [hlen] at hpos
    obtain ⟨b, off, spot⟩ := x
    have hc := hcell 0 (by omega)
    have hspot : spot = none := by simpa [Addr.add] using World.cell?_spot hc
    subst hspot
    refine ⟨b, off, rfl, cell_lt hc, fun i hi j v hv => ?_⟩
    rw [hlen] at hi
    have h1 := hcell i (by omega)
    rw [addr_add] at h1
    have hj : j = 0 := by
      have := (List.getElem?_eq_some_iff.1 hv).1
      simp [encB] at this
      omega
    subst hj
    have hmem : zs.getD i 0 ∈ zs := by
      rw [List.getD_eq_getElem?_getD, List.getElem?_eq_getElem (by omega)]
      exact List.getElem_mem _
    have hb := bounds_u8 (hwz _ hmem)
    have he : (bts (zs.take l)).getD i 0 = UInt8.ofNat (zs.getD i 0).toNat := by
      unfold bts
      rw [List.getD_eq_getElem?_getD, List.getElem?_map, List.getElem?_take, if_pos hi, List.getElem?_eq_getElem (by omega), List.getD_eq_getElem?_getD, List.getElem?_eq_getElem (by omega)]
      rfl
    rw [he] at hv
    simp only [encB, List.getElem?_cons_zero, Option.some.injEq] at hv
    rw [← hv, u8_back _ (by omega), Nat.mul_one, Nat.add_zero]
    exact h1
end Go.Proofs.Ytakddciegnkpdaa
