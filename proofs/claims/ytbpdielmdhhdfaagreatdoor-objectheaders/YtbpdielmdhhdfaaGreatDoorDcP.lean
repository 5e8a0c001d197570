/- 'Decode': what its parts give. -/
import Derived.Test.YtbpdielmdhhdfaaGreatDoorShB
import Derived.Test.YtbpdielmdhhdfaaGreatDoorEncA
import Derived.Test.YtbpdielmdhhdfaaGreatDoorKindB
namespace Go.Proofs.YtbpdielmdhhdfaaGreatDoor
open Go.RowKit
set_option linter.unusedVariables false
set_option linter.unusedSimpArgs false
theorem nums_bytesOf (l : List Int) (h : IsB l) : nums (Lib.bytesOf l) = l := by
  unfold nums Lib.bytesOf
  rw [List.map_map]
  conv => rhs; rw [← List.map_id l]
  apply List.map_congr_left
  intro x hx
  have := h x hx
  simp only [Function.comp, id, UInt8.toNat_ofNat']
  omega
theorem bytesOf_nums (l : List UInt8) : Lib.bytesOf (nums l) = l := by
  unfold nums Lib.bytesOf
  rw [List.map_map]
  conv => rhs; rw [← List.map_id l]
  apply List.map_congr_left
  intro x hx
  simp
theorem Sl.bytesIn {w : World} {a : Option Addr} {cap : Nat} {l : List Int} (h : Sl w a cap l) : Lib.BytesIn w a l.length l := fun h0 => by
  obtain ⟨b, off, e1, _, e3⟩ := h.at_ h0
  exact ⟨b, off, e1, e3⟩
theorem Sl.take {w : World} {a : Option Addr} {cap : Nat} {l : List Int} (h : Sl w a cap l) (i : Nat) : Sl w a cap (l.take i) :=
  ⟨by have := h.capl; rw [List.length_take]; omega, fun h0 => by
    rw [List.length_take] at h0
    obtain ⟨b, off, e1, e2, e3⟩ := h.at_ (by omega)
    refine ⟨b, off, e1, e2, fun j hj => ?_⟩
    rw [List.length_take] at hj
    rw [e3 j (by omega)]
    simp [List.getD_eq_getElem?_getD, List.getElem?_take, show j < i by omega], h.nil⟩
/-- 'string(b)'. -/
theorem conv_str {w : World} {a : Option Addr} {cap : Nat} {l : List Int} (h : Sl w a cap l) : (convert 23 9 (.slice a l.length cap)).run Tryz.prog w = .ok (.string ⟨(Lib.bytesOf l).toArray⟩) w := by
  by_cases h0 : 0 < l.length
  · obtain ⟨b, off, rfl, _, e3⟩ := h.at_ h0
    have := run_convert_bytes_arg (P := Tryz.prog) w 23 5 Tryz.underlying23 Tryz.underlying5 b off l.length cap l rfl e3 9 Tryz.underlying9
    rw [this]
    congr 2
  · have hl : l = [] := List.length_eq_zero_iff.1 (by omega)
    subst hl
    rw [List.length_nil, run_convert_bytes_string (P := Tryz.prog) w 23 9 5 a 0 cap Tryz.underlying23 Tryz.underlying5 Tryz.underlying9]
    cases a with
    | none => simp [Conv.bytesToString, Lib.bytesOf]; rfl
    | some ad => simp [Conv.bytesToString, loadCells, loadCellsFrom, Lib.bytesOf]; rfl
/-- The library's count of the longest thing it looks for: some number. -/
def Mx (w : World) : Prop := ∃ m : Int, w.cell? ⟨1, 0, none⟩ = some (.int .i64 m)
theorem Mx.below {w w' : World} (h : Mx w) (hb : Below w.heap.size w w') : Mx w' := by
  obtain ⟨m, hm⟩ := h
  refine ⟨m, (hb.cell (p := ⟨1, 0, none⟩) ?_).trans hm⟩
  rcases Nat.lt_or_ge 1 w.heap.size with h' | h'
  · exact h'
  · simp [World.cell?, Array.getElem?_eq_none h'] at hm
theorem bcut_any (a a2 : Option Addr) (cap cap2 : Nat) (zs ys : List Int) (w : World) (hl : zs.length ≤ 400000) (hy : ys.length ≤ 1000) (hz : IsB zs) (hyb : IsB ys) (hS : Sl w a cap zs) (hS2 : Sl w a2 cap2 ys) (hm : Mx w) :
    Calls Tryz.prog 81 #[.slice a zs.length cap, .slice a2 ys.length cap2] w fun e w' => e = .returned (Lib.cutV a zs.length cap ys.length (Lib.index (Lib.bytesOf zs) (Lib.bytesOf ys))) ∧ ∃ q, w' = w.drewN q := by
  obtain ⟨m, hm⟩ := hm
  exact Any.bytes_Cut_all Tryz.laysT4 a a2 zs.length cap ys.length cap2 zs ys m w rfl rfl hz hyb hS.bytesIn hS2.bytesIn hS.nil hS.capl (by omega) (by omega) hm
theorem scut_any (s sep : List UInt8) (w : World) (hs : s.length ≤ 1000000) (hm : Mx w) :
    Calls Tryz.prog 82 #[.string ⟨s.toArray⟩, .string ⟨sep.toArray⟩] w fun e w' => e = .returned (.tuple #[.string ⟨(Lib.cut s sep).1.toArray⟩, .string ⟨(Lib.cut s sep).2.1.toArray⟩, .bool (Lib.cut s sep).2.2]) ∧ ∃ q, w' = w.drewN q := by
  obtain ⟨m, hm⟩ := hm
  exact Any.strings_Cut Tryz.lays145 ⟨s.toArray⟩ ⟨sep.toArray⟩ m w (by simp [ByteArray.size]; omega) hm
theorem clone_any (a : Option Addr) (cap : Nat) (zs : List Int) (w : World) (hl : zs.length ≤ 400000) (hS : Sl w a cap zs) :
    Calls Tryz.prog 84 #[.slice a zs.length cap] w fun e w' => ∃ v', e = .returned v' ∧ w'.ownsRow w.heap.size 5 1 v' zs.length (zs.map (Value.int .u8)) ∧ Below w.heap.size w w' := by
  cases a with
  | none =>
    have hc : cap = 0 := hS.nil rfl
    have hcl := hS.capl
    obtain rfl : zs = [] := List.length_eq_zero_iff.1 (by omega)
    subst hc
    refine (Any.bytes_Clone_nil Tryz.laysK4 0 0 w).mono ?_
    rintro e w' ⟨rfl, rfl⟩
    exact ⟨_, rfl, ⟨rfl, .inl ⟨rfl, rfl⟩⟩, Below.refl _ _⟩
  | some ad =>
    refine (Any.bytes_Clone_at Tryz.laysK4 ad zs.length cap zs w rfl (by omega) (fun i hi => ?_)).mono ?_
    · obtain ⟨b, off, e1, _, e3⟩ := hS.at_ (by omega)
      cases e1
      rw [addr_add]
      exact e3 i hi
    · rintro e w' ⟨v', rfl, h1, _, h3⟩
      exact ⟨v', rfl, h1, h3⟩
theorem prefix_any (a a2 : Option Addr) (cap cap2 : Nat) (zs ys : List Int) (w : World) (hS : Sl w a cap zs) (hS2 : Sl w a2 cap2 ys) :
    Calls Tryz.prog 85 #[.slice a zs.length cap, .slice a2 ys.length cap2] w fun e w' => e = .returned (.bool (Lib.hasPrefix (Lib.bytesOf zs) (Lib.bytesOf ys))) ∧ w' = w :=
  Any.bytes_HasPrefix_all Tryz.laysb116 a a2 zs.length cap ys.length cap2 zs ys w rfl rfl hS.capl hS.bytesIn hS2.bytesIn
theorem Mk.sl {w : World} {g cap : Nat} {xs : List Int} (h : Mk w g cap xs) : Sl w (some ⟨g, 0, none⟩) cap xs := ⟨h.capl, fun _ => ⟨g, 0, rfl, h.lt, h.at_⟩, fun e => by cases e⟩
end Go.Proofs.YtbpdielmdhhdfaaGreatDoor
