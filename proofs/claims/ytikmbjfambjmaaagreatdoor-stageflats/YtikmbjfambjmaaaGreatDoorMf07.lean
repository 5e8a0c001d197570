import Derived.Test.YtikmbjfambjmaaaGreatDoorMf06
import Derived.Maps.OwnSet
import Derived.Maps.OwnOps
import Derived.DeepKeys4
import Derived.Shelf.Small.Strs
import Derived.Shelf.SlLaysF0
import Derived.Test.YtikmbjfambjmaaaGreatDoorProg
import Derived.RangeFuncNested
import Derived.RangeFuncBound
import Derived.RangeFuncCalls
import Derived.RangeFuncLeaves
import Derived.RangeFuncBox
import Derived.Shelf.Abstract
import Derived.Shelf.RegionOpen
import Derived.WalkKit
import Derived.OwnWalkIn
import Derived.TacticsInMore
import Derived.Sort.LoopGhostIn
namespace Go.Proofs.YtikmbjfambjmaaaGreatDoor
open Go.RowKit
set_option linter.unusedVariables false
set_option linter.unusedSimpArgs false
structure Er where
  mode : Int
  name : List UInt8
  id : List Int
def erV (e : Er) : List Value := .int .i64 e.mode :: .string ⟨e.name.toArray⟩ :: row .u8 e.id
def okM (m : Int) : Prop := m = 16384 ∨ m = 33188 ∨ m = 33261 ∨ m = 40960
def okE (s : List UInt8) : Prop := 1 ≤ s.length ∧ s.length ≤ 50 ∧ s ≠ [46] ∧ s ≠ [46, 46] ∧ s ≠ [46, 103, 105, 116] ∧ ∀ x ∈ s, x ≠ 47 ∧ x ≠ 0
def keyB (e : Er) : List UInt8 := if e.mode = 16384 then e.name ++ [47] else e.name
set_option maxRecDepth 20000 in
theorem isMode_any (m : Int) (w : World) : Calls Tryz.prog 69 #[.int .i64 m] w fun e w' => BIs (okM m) e ∧ w' = w := by
  by_cases h : okM m
  · have HM : Hid (okM m) := h
    rcases h with rfl | rfl | rfl | rfl
    all_goals
      go_enter Tryz.func69, Tryz.ntmps69
      go_wp2
      go_ret
      exact ⟨bis_true HM.out, rfl⟩
  · have HM : Hid (¬ okM m) := h
    have h1 : ¬ m = 16384 := fun e => h (Or.inl e)
    have h2 : ¬ m = 33188 := fun e => h (Or.inr (Or.inl e))
    have h3 : ¬ m = 33261 := fun e => h (Or.inr (Or.inr (Or.inl e)))
    have h4 : ¬ m = 40960 := fun e => h (Or.inr (Or.inr (Or.inr e)))
    clear h
    go_enter Tryz.func69, Tryz.ntmps69
    go_wp2
    go_ret
    exact ⟨bis_false HM.out, rfl⟩
theorem two_asc : Asc ⟨#[47, 0]⟩ := by
  intro j h
  have h' : j < 2 := h
  match j, h' with
  | 0, _ => exact (by decide : (47 : UInt8).toNat < 128)
  | 1, _ => exact (by decide : (0 : UInt8).toNat < 128)
theorem two_iff (s : List UInt8) : ¬ hasAny ⟨s.toArray⟩ ⟨#[47, 0]⟩ ↔ ∀ x ∈ s, x ≠ 47 ∧ x ≠ 0 := by
  unfold hasAny
  simp only [not_exists, not_and]
  constructor
  · intro h x hx
    have := h x hx
    simpa using this
  · intro h x hx
    have := h x hx
    simpa using this
set_option maxRecDepth 20000 in
theorem isEntryName_any (s : List UInt8) (w : World) : Calls Tryz.prog 59 #[.string ⟨s.toArray⟩] w fun e w' => BIs (okE s) e ∧ Below w.heap.size w w' := by
  by_cases hbad : s = [] ∨ s = [46] ∨ s = [46, 46] ∨ s = [46, 103, 105, 116]
  · have HOK : Hid (¬ okE s) := hid (by
      rintro ⟨h1, _, h3, h4, h5, _⟩
      rcases hbad with h | h | h | h
      · rw [h] at h1; exact absurd h1 (by decide)
      · exact h3 h
      · exact h4 h
      · exact h5 h)
    rcases hbad with rfl | rfl | rfl | rfl
    all_goals
      go_enter Tryz.func59, Tryz.ntmps59
      go_wp2
      go_ret
      exact ⟨bis_false HOK.out, Below.refl _ _⟩
  · obtain ⟨S, HS⟩ : ∃ S : ByteArray, Hid (S = ⟨s.toArray⟩) := ⟨_, rfl⟩
    have hsz : S.size = s.length := by rw [HS.out]; simp [ByteArray.size]
    have n0 : s ≠ [] := fun h => hbad (Or.inl h)
    have n1 : s ≠ [46] := fun h => hbad (Or.inr (Or.inl h))
    have n2 : s ≠ [46, 46] := fun h => hbad (Or.inr (Or.inr (Or.inl h)))
    have n3 : s ≠ [46, 103, 105, 116] := fun h => hbad (Or.inr (Or.inr (Or.inr h)))
    have eS : S.toList = s := by rw [HS.out, Lib.toList_data]
    have e0 : S.toList.isEmpty = false := by rw [eS]; simpa using n0
    have e1 : (S.toList == [46]) = false := by rw [eS]; simpa using n1
    have e2 : (S.toList == [46, 46]) = false := by rw [eS]; simpa using n2
    have e3 : (S.toList == [46, 103, 105, 116]) = false := by rw [eS]; simpa using n3
    clear eS
    have HCA : Hid (s.length ≤ 50 → ∀ w, Calls Tryz.prog 79 #[.string S, .string ⟨#[47, 0]⟩] w fun e w' => BIs (hasAny ⟨s.toArray⟩ ⟨#[47, 0]⟩) e ∧ Below w.heap.size w w') := fun h50 w => by
      rw [HS.out]
      refine (containsAny_any ⟨s.toArray⟩ ⟨#[47, 0]⟩ (by decide) (by decide) two_asc (by simp [ByteArray.size]; omega) w).mono ?_
      rintro e w' ⟨⟨b, rfl, hb⟩, h2⟩
      exact ⟨⟨b, rfl, hb⟩, h2⟩
    have HL : Hid (1 ≤ s.length) := hid (by
      rcases s with _ | ⟨x, s⟩
      · exact absurd rfl n0
      · simp)
    have HN : Hid (s ≠ [46] ∧ s ≠ [46, 46] ∧ s ≠ [46, 103, 105, 116]) := ⟨n1, n2, n3⟩
    rw [← HS.out]
    clear n0 n1 n2 n3 hbad
    by_cases h : s.length ≤ 50
    · have hi : (s.length : Int) ≤ 50 := by omega
      have h60 : Hid (s.length ≤ 50) := h
      clear h
      go_enter Tryz.func59, Tryz.ntmps59
      go_wp2_with fail
      refine (HCA.out h60.out _).mono ?_
      rintro ev w1 ⟨hbi, hb1⟩
      rcases bis_or hbi with ⟨hy, rfl⟩ | ⟨hn, rfl⟩
      · have HOK : Hid (¬ okE s) := fun h2 => absurd hy ((two_iff s).2 h2.2.2.2.2.2)
        clear hy hbi
        go_wp2
        go_ret
        exact ⟨bis_false HOK.out, hb1⟩
      · have HOK : Hid (okE s) := ⟨HL.out, h60.out, HN.out.1, HN.out.2.1, HN.out.2.2, (two_iff s).1 hn⟩
        clear hn hbi
        go_wp2
        go_ret
        exact ⟨bis_true HOK.out, hb1⟩
    · have hi : ¬ (s.length : Int) ≤ 50 := by omega
      have HOK : Hid (¬ okE s) := fun h2 => h h2.2.1
      clear h
      go_enter Tryz.func59, Tryz.ntmps59
      go_wp2
      go_ret
      exact ⟨bis_false HOK.out, Below.refl _ _⟩
def Grew (w w' : World) : Prop := ∃ q os, w' = Sort.grow (w.drewN q) os
theorem Grew.below {w w' : World} (h : Grew w w') : Below w.heap.size w w' := by
  obtain ⟨q, os, rfl⟩ := h
  refine ⟨rfl, rfl, rfl, by simp [Sort.grow], fun j hj => ?_⟩
  show (w.heap ++ os)[j]? = _
  rw [Array.getElem?_append_left hj]
theorem Grew.alloc (w : World) (o : Obj) : Grew w (w.alloc o) := ⟨0, #[o], by rw [Sort.alloc_eq_grow]; rfl⟩
set_option maxRecDepth 20000 in
theorem placeName_any (e : Er) (hn : e.name.length ≤ 1000000) (hl : e.id.length = 20) (w : World) : Calls Tryz.prog 75 #[.agg (erV e).toArray] w fun r w' => r = .returned (.string ⟨(keyB e).toArray⟩) ∧ Grew w w' := by
  obtain ⟨S, HS⟩ : ∃ S : ByteArray, Hid (S = ⟨e.name.toArray⟩) := ⟨_, rfl⟩
  obtain ⟨m, HM⟩ : ∃ m, Hid (e.mode = m) := ⟨_, rfl⟩
  have hsz : S.size = e.name.length := by rw [HS.out]; simp [ByteArray.size]
  have hS1 : ¬ 9223372036854775807 < S.size + 1 := by omega
  have hS2 : ¬ 9223372036854775807 ≤ S.size := by omega
  have h47 : (⟨#[47]⟩ : ByteArray).size = 1 := rfl
  have HE : Hid (S ++ ⟨#[47]⟩ = ⟨(e.name ++ [47]).toArray⟩) := hid (by
    rw [HS.out, show (⟨#[47]⟩ : ByteArray) = ⟨[47].toArray⟩ from rfl]
    exact str_app _ _)
  have HG : Hid (∀ o, Grew w (w.alloc o)) := fun o => Grew.alloc w o
  obtain ⟨a0, a1, a2, a3, a4, a5, a6, a7, a8, a9, a10, a11, a12, a13, a14, a15, a16, a17, a18, a19, el⟩ := list20 e.id hl
  have HV : Hid ((erV e).toArray = (Value.int .i64 m :: Value.string S :: row .u8 [a0, a1, a2, a3, a4, a5, a6, a7, a8, a9, a10, a11, a12, a13, a14, a15, a16, a17, a18, a19]).toArray) := hid (by unfold erV; rw [HM.out, HS.out, el])
  rw [HV.out]
  clear el hl hn
  simp only [row, List.map_cons, List.map_nil]
  by_cases h : m = 16384
  · have HK : Hid (⟨(keyB e).toArray⟩ = S ++ ⟨#[47]⟩) := hid (by rw [HE.out]; unfold keyB; rw [HM.out, if_pos h])
    rw [HK.out]
    subst h
    go_enter Tryz.func75, Tryz.ntmps75
    go_wp2
    go_ret
    exact ⟨rfl, HG.out _⟩
  · have HK : Hid (⟨(keyB e).toArray⟩ = S) := hid (by rw [HS.out]; unfold keyB; rw [HM.out, if_neg h])
    rw [HK.out]
    go_enter Tryz.func75, Tryz.ntmps75
    go_wp2
    go_ret
    exact ⟨rfl, HG.out _⟩
end Go.Proofs.YtikmbjfambjmaaaGreatDoor
namespace Go.Proofs
open Go.Shelf
def Tryz.lays106_ren : Go.Shelf.Ren := ⟨fun | 106 => 74 | 213 => 91 | 265 => 119 | n => n, fun | 9 => 9 | 3 => 3 | n => n, fun | n => n⟩
theorem Tryz.lays106 : Go.Proofs.Lays.n106 Tryz.prog Tryz.lays106_ren := {
  mixed := by kernel_rfl
  f106 := Tryz.func74.trans (congrArg some (by kernel_rfl))
  f213 := Tryz.func91.trans (congrArg some (by kernel_rfl))
  f265 := Tryz.func119.trans (congrArg some (by kernel_rfl))
  t3 := Tryz.underlying3
  a3 := Tryz.isAgg3
  z3 := Tryz.sizeOf3
  v3 := Tryz.zeroValue3
  t9 := Tryz.underlying9
  a9 := Tryz.isAgg9
  z9 := Tryz.sizeOf9
  v9 := Tryz.zeroValue9 }
def Tryz.sortE_ren : Go.Shelf.Ren := ⟨fun | 6 => 72 | 15 => 90 | 14 => 89 | 28 => 117 | 29 => 118 | 20 => 109 | 21 => 110 | 22 => 111 | 23 => 112 | 24 => 113 | 25 => 114 | 26 => 115 | 27 => 116 | 46 => 136 | 47 => 137 | 48 => 138 | 49 => 139 | 50 => 140 | 57 => 149 | n => n, fun | 22 => 72 | 24 => 84 | 25 => 145 | 3 => 3 | 39 => 129 | 0 => 0 | 53 => 69 | 55 => 68 | 4 => 4 | 46 => 202 | 45 => 201 | 50 => 206 | 5 => 5 | 9 => 9 | 66 => 229 | 70 => 233 | 76 => 245 | 77 => 246 | n => n, fun | n => n⟩
theorem Tryz.sortE : Go.Proofs.SlLaysF0.n6 Tryz.prog Tryz.sortE_ren := {
  mixed := by kernel_rfl
  f6 := ⟨Tryz.f72.name, by decide, Tryz.func72.trans (congrArg some (by kernel_rfl))⟩
  f14 := ⟨Tryz.f89.name, by decide, Tryz.func89.trans (congrArg some (by kernel_rfl))⟩
  f15 := Tryz.func90.trans (congrArg some (by kernel_rfl))
  f20 := ⟨Tryz.f109.name, by decide, Tryz.func109.trans (congrArg some (by kernel_rfl))⟩
  f21 := ⟨Tryz.f110.name, by decide, Tryz.func110.trans (congrArg some (by kernel_rfl))⟩
  f22 := ⟨Tryz.f111.name, by decide, Tryz.func111.trans (congrArg some (by kernel_rfl))⟩
  f23 := ⟨Tryz.f112.name, by decide, Tryz.func112.trans (congrArg some (by kernel_rfl))⟩
  f24 := ⟨Tryz.f113.name, by decide, Tryz.func113.trans (congrArg some (by kernel_rfl))⟩
  f25 := ⟨Tryz.f114.name, by decide, Tryz.func114.trans (congrArg some (by kernel_rfl))⟩
  f26 := ⟨Tryz.f115.name, by decide, Tryz.func115.trans (congrArg some (by kernel_rfl))⟩
  f27 := ⟨Tryz.f116.name, by decide, Tryz.func116.trans (congrArg some (by kernel_rfl))⟩
  f28 := Tryz.func117.trans (congrArg some (by kernel_rfl))
  f29 := Tryz.func118.trans (congrArg some (by kernel_rfl))
  f46 := ⟨Tryz.f136.name, by decide, Tryz.func136.trans (congrArg some (by kernel_rfl))⟩
  f47 := Tryz.func137.trans (congrArg some (by kernel_rfl))
  f48 := Tryz.func138.trans (congrArg some (by kernel_rfl))
  f49 := ⟨Tryz.f139.name, by decide, Tryz.func139.trans (congrArg some (by kernel_rfl))⟩
  f50 := ⟨Tryz.f140.name, by decide, Tryz.func140.trans (congrArg some (by kernel_rfl))⟩
  f57 := ⟨Tryz.f149.name, by decide, Tryz.func149.trans (congrArg some (by kernel_rfl))⟩
  t0 := Tryz.underlying0
  a0 := Tryz.isAgg0
  z0 := Tryz.sizeOf0
  v0 := Tryz.zeroValue0
  t3 := Tryz.underlying3
  a3 := Tryz.isAgg3
  z3 := Tryz.sizeOf3
  v3 := Tryz.zeroValue3
  t4 := Tryz.underlying4
  a4 := Tryz.isAgg4
  z4 := Tryz.sizeOf4
  v4 := Tryz.zeroValue4
  t5 := Tryz.underlying5
  a5 := Tryz.isAgg5
  z5 := Tryz.sizeOf5
  v5 := Tryz.zeroValue5
  t9 := Tryz.underlying9
  a9 := Tryz.isAgg9
  z9 := Tryz.sizeOf9
  v9 := Tryz.zeroValue9
  t22 := Tryz.underlying72
  a22 := Tryz.isAgg72
  z22 := Tryz.sizeOf72
  v22 := Tryz.zeroValue72
  t25 := Tryz.underlying145
  a25 := Tryz.isAgg145
  z25 := Tryz.sizeOf145
  v25 := Tryz.zeroValue145
  t39 := Tryz.underlying129
  a39 := Tryz.isAgg129
  z39 := Tryz.sizeOf129
  v39 := Tryz.zeroValue129
  t45 := Tryz.underlying201
  a45 := Tryz.isAgg201
  z45 := Tryz.sizeOf201
  v45 := Tryz.zeroValue201
  t46 := Tryz.underlying202
  a46 := Tryz.isAgg202
  z46 := Tryz.sizeOf202
  v46 := Tryz.zeroValue202
  t50 := Tryz.underlying206
  a50 := Tryz.isAgg206
  z50 := Tryz.sizeOf206
  v50 := Tryz.zeroValue206
  t53 := Tryz.underlying69
  a53 := Tryz.isAgg69
  z53 := Tryz.sizeOf69
  v53 := Tryz.zeroValue69
  t55 := Tryz.underlying68
  a55 := Tryz.isAgg68
  z55 := Tryz.sizeOf68
  v55 := Tryz.zeroValue68
  t66 := Tryz.underlying229
  a66 := Tryz.isAgg229
  z66 := Tryz.sizeOf229
  v66 := Tryz.zeroValue229
  t70 := Tryz.underlying233
  a70 := Tryz.isAgg233
  z70 := Tryz.sizeOf233
  v70 := Tryz.zeroValue233
  t76 := Tryz.underlying245
  a76 := Tryz.isAgg245
  z76 := Tryz.sizeOf245
  v76 := Tryz.zeroValue245
  t77 := Tryz.underlying246
  a77 := Tryz.isAgg246
  z77 := Tryz.sizeOf246
  v77 := Tryz.zeroValue246 }
end Go.Proofs
namespace Go.Proofs.YtikmbjfambjmaaaGreatDoor
open Go.RowKit
set_option linter.unusedVariables false
set_option linter.unusedSimpArgs false
theorem Grew.refl (w : World) : Grew w w := ⟨0, #[], by simp [Sort.grow, World.drewN]⟩
theorem Grew.drew (w : World) : Grew w w.drew := ⟨1, #[], by rw [World.drew_is_drewN]; simp [Sort.grow]; rfl⟩
theorem Grew.trans {a b c : World} (h : Grew a b) (k : Grew b c) : Grew a c := by
  obtain ⟨q, os, rfl⟩ := h
  obtain ⟨q2, os2, rfl⟩ := k
  refine ⟨q + q2, os ++ os2, ?_⟩
  simp [Sort.grow, World.drewN, Nat.add_assoc, Array.append_assoc]
def cmpE (x y : Er) : Int := Lib.compareBytes (keyB x) (keyB y)
theorem compare_any (a b : List UInt8) (w : World) : Calls Tryz.prog 74 #[.string ⟨a.toArray⟩, .string ⟨b.toArray⟩] w fun e w' => e = .returned (.int .i64 (Lib.compareBytes a b)) ∧ w' = w :=
  Any.strings_Compare Tryz.lays106 ⟨a.toArray⟩ ⟨b.toArray⟩ w
structure Two (G H : Nat) (X Y : List Value) (W : World) : Prop where
  x : W.heap[G]? = some (.cells X.toArray 84 (0, 0))
  y : W.heap[H]? = some (.cells Y.toArray 84 (0, 0))
theorem Two.below {G H : Nat} {X Y : List Value} {W W' : World} (h : Two G H X Y W) (hb : Below W.heap.size W W') : Two G H X Y W' :=
  ⟨(hb.block _ (lt_of_some h.x)).trans h.x, (hb.block _ (lt_of_some h.y)).trans h.y⟩
theorem size51 : (Tryz.prog.info? 84).map (·.size) = some 22 := by kernel_rfl
theorem enter93 (v : Value) (w : World) : (callFunc 75 #[v]).run Tryz.prog w = .ok (.enter 75 #[v]) w := by kernel_rfl
theorem enter92 (v1 v2 : Value) (w : World) : (callFunc 74 #[v1, v2]).run Tryz.prog w = .ok (.enter 74 #[v1, v2]) w := by kernel_rfl
theorem erV_len (e : Er) (h : e.id.length = 20) : (erV e).length = 22 := by simp [erV, row_len, h]
set_option maxRecDepth 20000 in
theorem byOrder_any (x y : Er) (hx : x.name.length ≤ 1000000) (hy : y.name.length ≤ 1000000) (lx : x.id.length = 20) (ly : y.id.length = 20) (w : World) : Calls Tryz.prog 55 #[.agg (erV x).toArray, .agg (erV y).toArray] w fun e w' => e = .returned (.int .i64 (cmpE x y)) ∧ Grew w w' := by
  obtain ⟨X, HX⟩ : ∃ X : List Value, Hid (erV x = X) := ⟨_, rfl⟩
  obtain ⟨Y, HY⟩ : ∃ Y : List Value, Hid (erV y = Y) := ⟨_, rfl⟩
  obtain ⟨A, HA⟩ : ∃ A : ByteArray, Hid (⟨(keyB x).toArray⟩ = A) := ⟨_, rfl⟩
  obtain ⟨B, HB⟩ : ∃ B : ByteArray, Hid (⟨(keyB y).toArray⟩ = B) := ⟨_, rfl⟩
  have HPX : Hid (∀ w, Calls Tryz.prog 75 #[.agg X.toArray] w fun r w' => r = .returned (.string A) ∧ Grew w w') := fun w => by
    rw [← HX.out, ← HA.out]; exact placeName_any x hx lx w
  have HPY : Hid (∀ w, Calls Tryz.prog 75 #[.agg Y.toArray] w fun r w' => r = .returned (.string B) ∧ Grew w w') := fun w => by
    rw [← HY.out, ← HB.out]; exact placeName_any y hy ly w
  have HC : Hid (∀ w, Calls Tryz.prog 74 #[.string A, .string B] w fun e w' => e = .returned (.int .i64 (cmpE x y)) ∧ w' = w) := fun w => by
    rw [← HA.out, ← HB.out]; exact compare_any _ _ w
  have HLX : Hid ((Tryz.prog.info? 84).map (·.size) = some X.length) := hid (by rw [← HX.out, erV_len x lx]; exact size51)
  have HLY : Hid ((Tryz.prog.info? 84).map (·.size) = some Y.length) := hid (by rw [← HY.out, erV_len y ly]; exact size51)
  rw [HX.out, HY.out]
  clear hx hy lx ly
  obtain ⟨g, HG⟩ : ∃ g, Hid (g = w.heap.size) := ⟨_, rfl⟩
  obtain ⟨w0, HW0⟩ : ∃ w0, Hid (w0 = (w.alloc (Obj.cells X.toArray 84)).alloc (Obj.cells Y.toArray 84)) := ⟨_, rfl⟩
  have HGW : Hid (Grew w w0.drew) := hid (by rw [HW0.out]; exact ((Grew.alloc w _).trans (Grew.alloc _ _)).trans (Grew.drew _))
  have HT : Hid (Two g (g + 1) X Y w0.drew) := hid (by
    rw [HW0.out, HG.out]
    constructor
    · show ((w.heap.push _).push _)[w.heap.size]? = _
      rw [Array.getElem?_push, if_neg (by simp), Array.getElem?_push, if_pos rfl]
    · show ((w.heap.push _).push _)[w.heap.size + 1]? = _
      rw [Array.getElem?_push, if_pos (by simp)])
  go_enter Tryz.func55, Tryz.ntmps55
  go_wp2_with fail
  rw [← HG.out, ← HW0.out]
  refine wp_region_held_drew (S := Two g (g + 1) X Y) (by kernel_rfl) (by exact HT.out) (fun hHeld => ?_)
  generalize w0.drew = wd at hHeld HGW ⊢
  refine takeL (i := 0) (v := .agg X.toArray) rfl (by kernel_rfl) (by kernel_rfl) (by kernel_rfl) (fun _ _ _ h => h) (yieldsIf_load_mid (by rfl) 84 _ rfl g 0 (by rfl) X _ (fun w' h => range_row h.x) Tryz.underlying84 rfl HLX.out) hHeld ?_
  try simp only [Act.put, List.setIfInBounds_toArray, List.set_cons_zero, List.set_cons_succ]
  refine takeL (i := 2) (v := .agg Y.toArray) rfl (by kernel_rfl) (by kernel_rfl) (by kernel_rfl) (fun _ _ _ h => h) (yieldsIf_load_mid (by rfl) 84 _ rfl (g + 1) 0 (by rfl) Y _ (fun w' h => range_row h.y) Tryz.underlying84 rfl HLY.out) hHeld ?_
  try simp only [Act.put, List.setIfInBounds_toArray, List.set_cons_zero, List.set_cons_succ]
  refine wpAnyH_ready (rs := [1]) (by kernel_rfl) (by simp) ?_
  refine consL rfl (fun KK hKK => ?_) AllReadyH.nil
  refine step_callv (by rfl) 75 [.tmp 5] _ [.agg X.toArray] _ (by rfl) (by rfl) (enter93 _) (HPX.out _) ?_
  rintro e w1 ⟨rfl, g1⟩
  refine ⟨_, rfl, ?_⟩
  have HG1 : Hid (Grew w w1) := HGW.out.trans g1
  refine hKK.out _ _ (hHeld.below g1.below) (fun hHeld => ?_)
  clear hKK KK g1
  try simp only [Act.put, List.setIfInBounds_toArray, List.set_cons_zero, List.set_cons_succ]
  refine wpAnyH_ready (rs := [3]) (by kernel_rfl) (by simp) ?_
  refine consL rfl (fun KK hKK => ?_) AllReadyH.nil
  refine step_callv (by rfl) 75 [.tmp 7] _ [.agg Y.toArray] _ (by rfl) (by rfl) (enter93 _) (HPY.out _) ?_
  rintro e w2 ⟨rfl, g2⟩
  refine ⟨_, rfl, ?_⟩
  have HG2 : Hid (Grew w w2) := HG1.out.trans g2
  refine hKK.out _ _ (hHeld.below g2.below) (fun hHeld => ?_)
  clear hKK KK g2
  try simp only [Act.put, List.setIfInBounds_toArray, List.set_cons_zero, List.set_cons_succ]
  refine wpAnyH_ready (rs := [4]) (by kernel_rfl) (by simp) ?_
  refine consL rfl (fun KK hKK => ?_) AllReadyH.nil
  refine step_callv (by rfl) 74 [.tmp 6, .tmp 8] _ [.string A, .string B] _ (by rfl) (by rfl) (enter92 _ _) (HC.out _) ?_
  rintro e w3 ⟨rfl, hw3⟩
  refine ⟨_, rfl, ?_⟩
  have hw3' := hw3.symm
  subst hw3'
  refine hKK.out _ _ hHeld (fun hHeld => ?_)
  clear hKK KK hw3
  try simp only [Act.put, List.setIfInBounds_toArray, List.set_cons_zero, List.set_cons_succ]
  refine takeL (i := 5) (v := ?_) rfl (by kernel_rfl) (by kernel_rfl) (by kernel_rfl) (fun _ _ _ h => h) (Or.inl ⟨by rfl, ?_⟩) hHeld ?_
  rotate_left
  · rintro w' _; go_simp; rfl
  try simp only [Act.put, List.setIfInBounds_toArray, List.set_cons_zero, List.set_cons_succ]
  refine wpAnyH_done (by kernel_rfl) ?_ _
  go_wp2
  go_ret
  exact ⟨rfl, HG2.out⟩
end Go.Proofs.YtikmbjfambjmaaaGreatDoor
namespace Go.Proofs.YtikmbjfambjmaaaGreatDoor
open Go.RowKit Go.Shelf
set_option linter.unusedVariables false
set_option linter.unusedSimpArgs false
theorem hg_alloc (w : World) (o : Obj) : w.grownBy (w.alloc o) none := World.grownBy_alloc w o none
def SeqAll {α : Type} (F : Fence) (n : Nat) (P : Program) (g : Nat) (lb : Array Value) (encs : α → Array Value) (Fx : α → World → Prop) (Kp : Nat → World → World → Prop) (S : List α → Prop) (N : Nat) (w0 : World) : Prop :=
  ∀ (l : Nat) (J : List α → World → Prop) (W : World), Below w0.heap.size w0 W → w0.heap.size ≤ l → l < W.heap.size →
    (∀ s A B, J s A → A.grownBy B none → J s B) →
    (∀ pre x W1, J pre W1 → Fx x W1 → pre.length < N → YieldAt F (n - 1) P l (encs x) W1 fun e W' => e = .returned (.bool true) ∧ J (pre ++ [x]) W' ∧ Kp l W1 W') →
    J [] W →
    CallsIn F n P g (#[.func (.yield l) #[] #[]] ++ lb) W fun e W' => (∃ v, e = .returned v) ∧ ∃ xs, S xs ∧ J xs W'
def Ob (X : Nat) (W : World) (k : Nat) : Prop := ∃ v, W.cell? ⟨X, 0, none⟩ = some v ∧ v.ownBlock = some k
structure Kx (X l : Nat) (A B : World) : Prop where
  os : B.os = A.os
  tape : B.tape = A.tape
  output : B.output = A.output
  size : A.heap.size ≤ B.heap.size
  at_ : ∀ k, Ob X B k → Ob X A k ∨ A.heap.size ≤ k
  blk : ∀ k, k < A.heap.size → k ≠ X → k ≠ l → ¬ Ob X A k → B.heap[k]? = A.heap[k]?
  bd : (∀ k, Ob X A k → k < A.heap.size) → ∀ k, Ob X B k → k < B.heap.size
theorem Kx.refl (X l : Nat) (A : World) : Kx X l A A := ⟨rfl, rfl, rfl, Nat.le_refl _, fun _ h => .inl h, fun _ _ _ _ _ => rfl, fun h => h⟩
theorem Kx.trans {X l : Nat} {A B C : World} (h : Kx X l A B) (k : Kx X l B C) : Kx X l A C := by
  have hs := h.size
  refine ⟨k.os.trans h.os, k.tape.trans h.tape, k.output.trans h.output, Nat.le_trans h.size k.size, fun i hi => ?_, fun i h1 h2 h3 h4 => ?_, fun hb => k.bd (h.bd hb)⟩
  · rcases k.at_ i hi with g | g
    · exact h.at_ i g
    · exact .inr (by omega)
  · refine (k.blk i (by omega) h2 h3 (fun ho => ?_)).trans (h.blk i h1 h2 h3 h4)
    rcases h.at_ i ho with g | g
    · exact h4 g
    · omega
theorem Kx.grow {X l : Nat} {A B : World} (hX : X < A.heap.size) (h : A.grownBy B none) : Kx X l A B :=
  ⟨h.os, h.tape, h.output, h.size, fun k ⟨v, h1, h2⟩ => .inl ⟨v, by rw [← h1]; exact (World.cell?_of_block (a := ⟨X, 0, none⟩) (h.block X hX (by simp))).symm, h2⟩, fun k h1 _ _ _ => h.block k h1 (by simp), fun hb k ⟨v, h1, h2⟩ => Nat.lt_of_lt_of_le (hb k ⟨v, by rw [← h1]; exact (World.cell?_of_block (a := ⟨X, 0, none⟩) (h.block X hX (by simp))).symm, h2⟩) h.size⟩
theorem Kx.loop {X l : Nat} {W : World} {r r' : Loop} (hX : X ≠ l) : Kx X l W (W.putObj l (.loop r')) :=
  ⟨rfl, rfl, rfl, by rw [World.putObj_size]; exact Nat.le_refl _, fun k ⟨v, h1, h2⟩ => .inl ⟨v, by rw [← h1]; exact (World.cell?_of_block (a := ⟨X, 0, none⟩) (World.putObj_heap_other hX)).symm, h2⟩, fun k h1 _ h3 _ => World.putObj_heap_other h3, fun hb k ⟨v, h1, h2⟩ => by rw [World.putObj_size]; exact hb k ⟨v, by rw [← h1]; exact (World.cell?_of_block (a := ⟨X, 0, none⟩) (World.putObj_heap_other hX)).symm, h2⟩⟩
theorem Kx.keep {X l k : Nat} {A B : World} (h : Kx X l A B) (h1 : k < A.heap.size) (h2 : k ≠ X) (h3 : k ≠ l) (h4 : ¬ Ob X A k) : B.heap[k]? = A.heap[k]? := h.blk k h1 h2 h3 h4
structure Fre (X : Nat) (w : World) (k : Nat) : Prop where
  lt : k < w.heap.size
  ne : k ≠ X
  no : ¬ Ob X w k
theorem Fre.kx {X l k : Nat} {A B : World} (h : Fre X A k) (hk : Kx X l A B) : Fre X B k :=
  ⟨Nat.lt_of_lt_of_le h.lt hk.size, h.ne, fun ho => by rcases hk.at_ k ho with g | g; exact h.no g; have := h.lt; omega⟩
theorem boxed_kx {X l B t : Nat} {v : Value} {A W : World} (h : Boxed A B t v) (hk : Kx X l A W) (hf : Fre X A B) (hl : B ≠ l) : Boxed W B t v := (hk.blk B hf.lt hf.ne hl hf.no).trans h
end Go.Proofs.YtikmbjfambjmaaaGreatDoor
namespace Go.Proofs.YtikmbjfambjmaaaGreatDoor
open Go.RowKit Go.Shelf
set_option linter.unusedVariables false
set_option linter.unusedSectionVars false
set_option linter.unusedSimpArgs false
variable [Inhabited Er]
def WfE (es : List Er) : Prop := ∀ x ∈ es, x.id.length = 20 ∧ ∀ n ∈ x.id, 0 ≤ n ∧ n < 256
structure Pe (w : World) (a : Option Addr) (cap : Nat) (es : List Er) : Prop where
  capl : es.length ≤ cap
  at_ : 0 < es.length → ∃ b off, a = some ⟨b, off, none⟩ ∧ b < w.heap.size ∧ ∀ i, i < es.length → w.rangeAt b (off + i * 22) (erV (es.getD i default))
  nil : a = none → cap = 0
theorem Pe.below {w w' : World} {a : Option Addr} {cap : Nat} {es : List Er} (h : Pe w a cap es) (hb : Below w.heap.size w w') : Pe w' a cap es :=
  ⟨h.capl, fun h0 => by
    obtain ⟨b, off, e1, e2, e3⟩ := h.at_ h0
    exact ⟨b, off, e1, Nat.lt_of_lt_of_le e2 hb.size, fun i hi j v hv => (hb.cell (p := ⟨b, off + i * 22 + j, none⟩) e2).trans (e3 i hi j v hv)⟩, h.nil⟩
theorem Pe.kx {X l : Nat} {A B : World} {a : Option Addr} {cap : Nat} {es : List Er} (h : Pe A a cap es) (hk : Kx X l A B) (hf : 0 < es.length → ∀ p : Addr, a = some p → Fre X A p.block ∧ p.block ≠ l) : Pe B a cap es :=
  ⟨h.capl, fun h0 => by
    obtain ⟨b, off, e1, e2, e3⟩ := h.at_ h0
    obtain ⟨f1, f2⟩ := hf h0 _ e1
    exact ⟨b, off, e1, Nat.lt_of_lt_of_le e2 hk.size, fun i hi j v hv => (World.cell?_of_block (a := ⟨b, off + i * 22 + j, none⟩) (hk.blk b f1.lt f1.ne f2 f1.no)).trans (e3 i hi j v hv)⟩, h.nil⟩
theorem take_snocE (es : List Er) (i : Nat) (h : i < es.length) : es.take (i + 1) = es.take i ++ [es.getD i default] := by
  rw [List.take_add_one, List.getD_eq_getElem?_getD, List.getElem?_eq_getElem h]; rfl
def encE (x : Er) : Array Value := #[.agg (erV x).toArray]
theorem zero51 (w : World) : (zeroValue 84).run Tryz.prog w = .ok (.agg (erV ⟨0, [], z20⟩).toArray) w := by kernel_rfl
theorem erV_one (e : Er) : ∀ v ∈ erV e, v.oneCell' = true := by
  intro v hv
  simp only [erV, List.mem_cons] at hv
  rcases hv with rfl | rfl | hv
  · rfl
  · rfl
  · exact row_one _ _ v hv
theorem wpListIn_load_mid {F : Fence} {nF : Nat} {P : Program} {ops : Array Oper} {rest : List Oper} {op : Oper} {a : Act} {w : World} {Q : Exit → Act → World → Prop} (hgd : op.guard = none) (ty : TypeId) (x : Operand) (ho : op.op = .load ty x)
    (b o : Nat) (hx : a.eval x = .pointer (some ⟨b, o, none⟩)) (cs : List Value) (d : TypeDesc) (hc : w.rangeAt b o cs)
    (hu : P.underlying ty = some d) (hd : d.isRow = true) (hi : (P.info? ty).map (·.size) = some cs.length)
    (h : wpListIn F nF P ops Q rest (a.put op.dst (.agg cs.toArray)) w) : wpListIn F nF P ops Q (op :: rest) a w := by
  refine wpListIn_plain hgd fun K hK => ?_
  unfold Oper.wpIn
  refine ⟨by simp [Oper.about, ho], ?_⟩
  rw [Oper.semAt_plain F _ _ (by rw [ho]; intro c hc'; cases hc')]
  unfold execOp
  simp only [ho, hx, Instr.loadAt, Instr.sureAddr, Sem.run_bind, Sem.run_pure, Result.andThen_ok, run_loadVar_mid w b o ty cs d hc hu hd hi]
  exact hK _ _ h
theorem wpListIn_store_row {F : Fence} {nF : Nat} {P : Program} {ops : Array Oper} {rest : List Oper} {o : Oper} {a : Act} {w : World} {Q : Exit → Act → World → Prop} (hgd : o.guard = none) (ty : TypeId) (x y : Operand) (ho : o.op = .store ty x y)
    (g : Nat) (cells : Array Value) (hx : a.eval x = .pointer (some ⟨g, 0, none⟩)) (hy : a.eval y = .agg cells)
    (t : TypeId) (old : Array Value) (hg : w.heap[g]? = some (.cells old t (0, 0))) (hi : (P.info? ty).map (·.size) = some cells.size)
    (hold : old.size = cells.size) (h1 : cells.all (·.oneCell') = true)
    (h : wpListIn F nF P ops Q rest (a.put o.dst undef) (w.setRow g cells)) : wpListIn F nF P ops Q (o :: rest) a w := by
  refine wpListIn_plain hgd fun K hK => ?_
  unfold Oper.wpIn
  refine ⟨by simp [Oper.about, ho], ?_⟩
  rw [Oper.semAt_plain F _ _ (by rw [ho]; intro c hc'; cases hc')]
  unfold execOp
  simp only [ho, hx, hy, Instr.storeAt, Instr.sureAddr, Sem.run_bind, Sem.run_pure, Result.andThen_ok, run_storeVar_row w g t ty old cells hg hi hold h1]
  exact hK _ _ h
set_option maxRecDepth 100000 in
set_option maxHeartbeats 4000000 in
theorem values_all (n : Nat) (hn : 1 ≤ n) (w : World) (X Bs : Nat) (a : Option Addr) (cap : Nat) (es : List Er) (hwf : WfE es) (hP : Pe w a cap es) (hl : es.length ≤ 1000) (hbs : Boxed w Bs 72 (.slice a es.length cap))
    (hX : X < w.heap.size) (fs : Fre X w Bs) (fa : 0 < es.length → ∀ p : Addr, a = some p → Fre X w p.block) :
    SeqAll Fence.wide n Tryz.prog 73 #[.pointer (some ⟨Bs, 0, none⟩)] encE (fun x _ => x.id.length = 20) (Kx X) (fun xs => xs = es) es.length w := by
  intro l J W hW hwl hlW hJ hY h0
  have hXW : X < W.heap.size := Nat.lt_of_lt_of_le hX hW.size
  have K0 : Kx X l w W := ⟨hW.os, hW.tape, hW.output, hW.size, fun k ⟨v, h1, h2⟩ => .inl ⟨v, by rw [← h1]; exact (hW.cell (p := ⟨X, 0, none⟩) hX).symm, h2⟩, fun k h1 _ _ _ => hW.block k h1, fun hb k ⟨v, h1, h2⟩ => Nat.lt_of_lt_of_le (hb k ⟨v, by rw [← h1]; exact (hW.cell (p := ⟨X, 0, none⟩) hX).symm, h2⟩) hW.size⟩
  obtain ⟨L, HL⟩ : ∃ L, Hid (es.length = L) := ⟨_, rfl⟩
  have hL : L ≤ 1000 := by rw [← HL.out]; exact hl
  have ks : W.cell? ⟨Bs, 0, none⟩ = some (.slice a L cap) := by rw [← HL.out]; exact (boxed_kx hbs K0 fs (by have := fs.lt; omega)).cell
  obtain ⟨zr, HZ⟩ : ∃ zr : Array Value, Hid (zr = (erV ⟨0, [], z20⟩).toArray) := ⟨_, rfl⟩
  have hz51 : ∀ w : World, (zeroValue 84).run Tryz.prog w = .ok (.agg zr) w := fun w => by rw [HZ.out]; exact zero51 w
  have HPE : Hid (∀ B, Kx X l w B → Pe B a cap es) := fun B hk => hP.kx hk (fun h0 p hp => ⟨fa h0 p hp, by have := (fa h0 p hp).lt; omega⟩)
  refine callsIn_of_wp Tryz.func73 rfl trivial ?_ rfl
  simp only [Tryz.ntmps73, List.size_toArray, List.length_cons, List.length_nil, Nat.reduceAdd, Nat.reduceSub, Array.replicate_succ, Array.replicate_zero, List.push_toArray, List.append_toArray, List.nil_append, List.cons_append]
  gi_wp2
  gi_loopg [7] L (fun k v wr => ∃ (i : Nat), v = .int .i64 i ∧ k = L - i ∧ i ≤ L ∧ Hid (Kx X l w wr) ∧ Hid (J (es.take i) wr))
  case atStart => exact ⟨0, rfl, rfl, by omega, K0, h0⟩
  case round =>
    obtain ⟨i, rfl, hk, hi, HK, HJ⟩ := hrel
    by_cases hiL : i < L
    · have hiI : (i : Int) < L := by omega
      obtain ⟨b, off, hae, hbG, hat⟩ := (HPE.out wr HK.out).at_ (by rw [HL.out]; omega)
      subst hae
      obtain ⟨x, HX⟩ : ∃ x, Hid (es.getD i default = x) := ⟨_, rfl⟩
      have hxm : x ∈ es := by
        rw [← HX.out, List.getD_eq_getElem?_getD, List.getElem?_eq_getElem (by rw [HL.out]; exact hiL)]
        exact List.getElem_mem _
      have hx20 := (hwf x hxm).1
      obtain ⟨R, HR⟩ : ∃ R : List Value, Hid (erV x = R) := ⟨_, rfl⟩
      have RR : Hid (wr.rangeAt b (off + i * 22) R) := hid (by rw [← HR.out, ← HX.out]; exact hat i (by rw [HL.out]; exact hiL))
      have HFN : Hid (R.length = 22) := hid (by rw [← HR.out]; exact erV_len x hx20)
      have hi51 : (Tryz.prog.info? 84).map (·.size) = some R.length := by rw [HFN.out]; exact size51
      have I51 : Hid ((Tryz.prog.info? 84).map (·.size) = some R.toArray.size) := hid (by rw [List.size_toArray]; exact hi51)
      have E51 : Hid (zr.size = R.toArray.size) := hid (by rw [HZ.out, List.size_toArray, List.size_toArray, HFN.out]; rfl)
      have O51 : Hid (R.toArray.all (·.oneCell') = true) := hid (by rw [← HR.out]; exact all_oneCell_toArray (erV_one _))
      have D0 : Hid ((wr.alloc (.cells zr 84)).heap[wr.heap.size]? = some (.cells zr 84 (0, 0))) := heap_alloc_new wr _
      obtain ⟨w2, HW2⟩ : ∃ w2, Hid ((wr.alloc (.cells zr 84)).setRow wr.heap.size R.toArray = w2) := ⟨_, rfl⟩
      obtain ⟨H, HH⟩ : ∃ H, Hid (wr.heap.size = H) := ⟨_, rfl⟩
      have hb2 : Below wr.heap.size wr w2 := by rw [← HW2.out]; exact below_setRow ((Below.refl _ wr).alloc (Nat.le_refl _) _) (Nat.le_refl _) _
      have hg2 : wr.grownBy w2 none := grown_of_below hb2 _
      have R2 : Hid (w2.rangeAt H 0 R) := hid (by rw [← HW2.out, ← HH.out]; exact range_row (setRow_heap _ _ _ R.toArray _ _ D0.out))
      have HPI : Hid ((es.take i).length < es.length) := hid (by rw [List.length_take, HL.out]; omega)
      obtain ⟨fn_, tmps, assign, body, hy, hRr⟩ := hY (es.take i) x w2 (hJ _ _ _ HJ.out hg2) hx20 HPI.out
      have HKg : Hid (Kx X l w w2) := HK.out.trans (Kx.grow (Nat.lt_of_lt_of_le hX HK.out.size) hg2)
      have HTK : Hid (es.take i ++ [x] = es.take (i + 1)) := hid (by rw [take_snocE es i (by rw [HL.out]; exact hiL), HX.out])
      have hRr2 : Hid (RoundIn Fence.wide (n - 1) Tryz.prog l fn_ tmps assign body w2 fun e W' => e = .returned (.bool true) ∧ J (es.take i ++ [x]) W' ∧ Kx X l w2 W') := hid hRr
      rw [show encE x = #[.agg R.toArray] by unfold encE; rw [HR.out]] at hy
      clear hg2 hb2 hat hxm hRr
      gi_wp2_with (first
        | refine wpListIn_load_mid rfl 84 _ rfl b (off + i * 22) rfl R _ RR.out Tryz.underlying84 rfl hi51 ?_
        | (refine wpListIn_store_row rfl 84 _ _ rfl wr.heap.size R.toArray rfl rfl 84 zr D0.out I51.out E51.out O51.out ?_; rw [HW2.out, HH.out])
        | refine wpListIn_load_mid rfl 84 _ rfl H 0 rfl R _ R2.out Tryz.underlying84 rfl hi51 ?_)
      refine hRr2.out.mono ?_
      rintro e1 W3 ⟨rfl, hJ3, hk3⟩
      have HK3 : Hid (Kx X l w W3) := HKg.out.trans hk3
      have HJ3 : Hid (J (es.take (i + 1)) W3) := hid (by rw [← HTK.out]; exact hJ3)
      clear hJ3 hk3
      gi_wp2
      gi_roundg (L - (i + 1))
      case measure => omega
      case rel => exact ⟨i + 1, by go_num, rfl, by omega, HK3, HJ3⟩
    · have hiI : ¬ (i : Int) < L := by omega
      have hin : i = L := by omega
      gi_wp2
      go_end0
      have := HJ.out
      rw [List.take_of_length_le (by rw [HL.out]; omega)] at this
      exact ⟨⟨_, rfl⟩, this⟩
end Go.Proofs.YtikmbjfambjmaaaGreatDoor
