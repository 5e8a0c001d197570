import Derived.Test.YtbpdielmdhhdfaaGreatDoorMu17
import Derived.Shelf.Small.Strs
import Derived.Shelf.SlLaysF0
import Derived.Test.YtbpdielmdhhdfaaGreatDoorProg
/- Package object: a tree's entries: their modes, names and places. -/
namespace Go.Proofs.YtbpdielmdhhdfaaGreatDoor
open Go.RowKit
set_option linter.unusedVariables false
set_option linter.unusedSimpArgs false
/-- An entry. -/
structure Er where
  mode : Int
  name : List UInt8
  id : List Int
/-- As cells. -/
def erV (e : Er) : List Value := .int .i64 e.mode :: .string ⟨e.name.toArray⟩ :: row .u8 e.id
/-- 3.2: the modes. -/
def okM (m : Int) : Prop := m = 16384 ∨ m = 33188 ∨ m = 33261 ∨ m = 40960
/-- 3.2: the names. -/
def okE (s : List UInt8) : Prop := 1 ≤ s.length ∧ s.length ≤ 50 ∧ s ≠ [46] ∧ s ≠ [46, 46] ∧ s ≠ [46, 103, 105, 116] ∧ ∀ x ∈ s, x ≠ 47 ∧ x ≠ 0
/-- By which it finds its place. -/
def keyB (e : Er) : List UInt8 := if e.mode = 16384 then e.name ++ [47] else e.name
set_option maxRecDepth 20000 in
theorem isMode_any (m : Int) (w : World) : Calls Tryz.prog 86 #[.int .i64 m] w fun e w' => BIs (okM m) e ∧ w' = w := by
  by_cases h : okM m
  · have HM : Hid (okM m) := h
    rcases h with rfl | rfl | rfl | rfl
    all_goals
      go_enter Tryz.func86, Tryz.ntmps86
      go_wp2
      go_ret
      exact ⟨bis_true HM.out, rfl⟩
  · have HM : Hid (¬ okM m) := h
    have h1 : ¬ m = 16384 := fun e => h (Or.inl e)
    have h2 : ¬ m = 33188 := fun e => h (Or.inr (Or.inl e))
    have h3 : ¬ m = 33261 := fun e => h (Or.inr (Or.inr (Or.inl e)))
    have h4 : ¬ m = 40960 := fun e => h (Or.inr (Or.inr (Or.inr e)))
    clear h
    go_enter Tryz.func86, Tryz.ntmps86
    go_wp2
    go_ret
    exact ⟨bis_false HM.out, rfl⟩
theorem two_asc : Asc ⟨#[47, 0]⟩ := by
  intro j h
  have h' : j < 2 := h
  match j, h' with
  | 0, _ => exact (by decide : (47 : UInt8).toNat < 128)
  | 1, _ => exact (by decide : (0 : UInt8).toNat < 128)
theorem two_iff (s : List UInt8) : ¬ hasAny ⟨s.toArray⟩ ⟨#[47, 0]⟩ ↔ ∀ x ∈ s, x ≠ 47 ∧ x ≠ 0 := by
  unfold hasAny
  simp only [not_exists, not_and]
  constructor
  · intro h x hx
    have := h x hx
    simpa using this
  · intro h x hx
    have := h x hx
    simpa using this
set_option maxRecDepth 20000 in
theorem isEntryName_any (s : List UInt8) (w : World) : Calls Tryz.prog 87 #[.string ⟨s.toArray⟩] w fun e w' => BIs (okE s) e ∧ Below w.heap.size w w' := by
  by_cases hbad : s = [] ∨ s = [46] ∨ s = [46, 46] ∨ s = [46, 103, 105, 116]
  · have HOK : Hid (¬ okE s) := hid (by
      rintro ⟨h1, _, h3, h4, h5, _⟩
      rcases hbad with h | h | h | h
      · rw [h] at h1; exact absurd h1 (by decide)
      · exact h3 h
      · exact h4 h
      · exact h5 h)
    rcases hbad with rfl | rfl | rfl | rfl
    all_goals
      go_enter Tryz.func87, Tryz.ntmps87
      go_wp2
      go_ret
      exact ⟨bis_false HOK.out, Below.refl _ _⟩
  · obtain ⟨S, HS⟩ : ∃ S : ByteArray, Hid (S = ⟨s.toArray⟩) := ⟨_, rfl⟩
    have hsz : S.size = s.length := by rw [HS.out]; simp [ByteArray.size]
    have n0 : s ≠ [] := fun h => hbad (Or.inl h)
    have n1 : s ≠ [46] := fun h => hbad (Or.inr (Or.inl h))
    have n2 : s ≠ [46, 46] := fun h => hbad (Or.inr (Or.inr (Or.inl h)))
    have n3 : s ≠ [46, 103, 105, 116] := fun h => hbad (Or.inr (Or.inr (Or.inr h)))
    have eS : S.toList = s := by rw [HS.out, Lib.toList_data]
    have e0 : S.toList.isEmpty = false := by rw [eS]; simpa using n0
    have e1 : (S.toList == [46]) = false := by rw [eS]; simpa using n1
    have e2 : (S.toList == [46, 46]) = false := by rw [eS]; simpa using n2
    have e3 : (S.toList == [46, 103, 105, 116]) = false := by rw [eS]; simpa using n3
    clear eS
    have HCA : Hid (s.length ≤ 50 → ∀ w, Calls Tryz.prog 125 #[.string S, .string ⟨#[47, 0]⟩] w fun e w' => BIs (hasAny ⟨s.toArray⟩ ⟨#[47, 0]⟩) e ∧ Below w.heap.size w w') := fun h50 w => by
      rw [HS.out]
      refine (containsAny_any ⟨s.toArray⟩ ⟨#[47, 0]⟩ (by decide) (by decide) two_asc (by simp [ByteArray.size]; omega) w).mono ?_
      rintro e w' ⟨⟨b, rfl, hb⟩, h2⟩
      exact ⟨⟨b, rfl, hb⟩, h2⟩
    have HL : Hid (1 ≤ s.length) := hid (by
      rcases s with _ | ⟨x, s⟩
      · exact absurd rfl n0
      · simp)
    have HN : Hid (s ≠ [46] ∧ s ≠ [46, 46] ∧ s ≠ [46, 103, 105, 116]) := ⟨n1, n2, n3⟩
    rw [← HS.out]
    clear n0 n1 n2 n3 hbad
    by_cases h : s.length ≤ 50
    · have hi : (s.length : Int) ≤ 50 := by omega
      have h60 : Hid (s.length ≤ 50) := h
      clear h
      go_enter Tryz.func87, Tryz.ntmps87
      go_wp2_with fail
      refine (HCA.out h60.out _).mono ?_
      rintro ev w1 ⟨hbi, hb1⟩
      rcases bis_or hbi with ⟨hy, rfl⟩ | ⟨hn, rfl⟩
      · have HOK : Hid (¬ okE s) := fun h2 => absurd hy ((two_iff s).2 h2.2.2.2.2.2)
        clear hy hbi
        go_wp2
        go_ret
        exact ⟨bis_false HOK.out, hb1⟩
      · have HOK : Hid (okE s) := ⟨HL.out, h60.out, HN.out.1, HN.out.2.1, HN.out.2.2, (two_iff s).1 hn⟩
        clear hn hbi
        go_wp2
        go_ret
        exact ⟨bis_true HOK.out, hb1⟩
    · have hi : ¬ (s.length : Int) ≤ 50 := by omega
      have HOK : Hid (¬ okE s) := fun h2 => h h2.2.1
      clear h
      go_enter Tryz.func87, Tryz.ntmps87
      go_wp2
      go_ret
      exact ⟨bis_false HOK.out, Below.refl _ _⟩
/-- Nothing but draws and new blocks. -/
def Grew (w w' : World) : Prop := ∃ q os, w' = Sort.grow (w.drewN q) os
theorem Grew.below {w w' : World} (h : Grew w w') : Below w.heap.size w w' := by
  obtain ⟨q, os, rfl⟩ := h
  refine ⟨rfl, rfl, rfl, by simp [Sort.grow], fun j hj => ?_⟩
  show (w.heap ++ os)[j]? = _
  rw [Array.getElem?_append_left hj]
theorem Grew.alloc (w : World) (o : Obj) : Grew w (w.alloc o) := ⟨0, #[o], by rw [Sort.alloc_eq_grow]; rfl⟩
set_option maxRecDepth 20000 in
theorem placeName_any (e : Er) (hn : e.name.length ≤ 1000000) (hl : e.id.length = 20) (w : World) : Calls Tryz.prog 93 #[.agg (erV e).toArray] w fun r w' => r = .returned (.string ⟨(keyB e).toArray⟩) ∧ Grew w w' := by
  obtain ⟨S, HS⟩ : ∃ S : ByteArray, Hid (S = ⟨e.name.toArray⟩) := ⟨_, rfl⟩
  obtain ⟨m, HM⟩ : ∃ m, Hid (e.mode = m) := ⟨_, rfl⟩
  have hsz : S.size = e.name.length := by rw [HS.out]; simp [ByteArray.size]
  have hS1 : ¬ 9223372036854775807 < S.size + 1 := by omega
  have hS2 : ¬ 9223372036854775807 ≤ S.size := by omega
  have h47 : (⟨#[47]⟩ : ByteArray).size = 1 := rfl
  have HE : Hid (S ++ ⟨#[47]⟩ = ⟨(e.name ++ [47]).toArray⟩) := hid (by
    rw [HS.out, show (⟨#[47]⟩ : ByteArray) = ⟨[47].toArray⟩ from rfl]
    exact str_app _ _)
  have HG : Hid (∀ o, Grew w (w.alloc o)) := fun o => Grew.alloc w o
  obtain ⟨a0, a1, a2, a3, a4, a5, a6, a7, a8, a9, a10, a11, a12, a13, a14, a15, a16, a17, a18, a19, el⟩ := list20 e.id hl
  have HV : Hid ((erV e).toArray = (Value.int .i64 m :: Value.string S :: row .u8 [a0, a1, a2, a3, a4, a5, a6, a7, a8, a9, a10, a11, a12, a13, a14, a15, a16, a17, a18, a19]).toArray) := hid (by unfold erV; rw [HM.out, HS.out, el])
  rw [HV.out]
  clear el hl hn
  simp only [row, List.map_cons, List.map_nil]
  by_cases h : m = 16384
  · have HK : Hid (⟨(keyB e).toArray⟩ = S ++ ⟨#[47]⟩) := hid (by rw [HE.out]; unfold keyB; rw [HM.out, if_pos h])
    rw [HK.out]
    subst h
    go_enter Tryz.func93, Tryz.ntmps93
    go_wp2
    go_ret
    exact ⟨rfl, HG.out _⟩
  · have HK : Hid (⟨(keyB e).toArray⟩ = S) := hid (by rw [HS.out]; unfold keyB; rw [HM.out, if_neg h])
    rw [HK.out]
    go_enter Tryz.func93, Tryz.ntmps93
    go_wp2
    go_ret
    exact ⟨rfl, HG.out _⟩
end Go.Proofs.YtbpdielmdhhdfaaGreatDoor
/- Contracts of the library at this seat, laid: strings.Compare, slices.SortFunc. -/
namespace Go.Proofs
open Go.Shelf
def Tryz.lays106_ren : Go.Shelf.Ren := ⟨fun | 106 => 92 | 213 => 129 | 265 => 165 | n => n, fun | 9 => 9 | 3 => 3 | n => n, fun | n => n⟩
theorem Tryz.lays106 : Go.Proofs.Lays.n106 Tryz.prog Tryz.lays106_ren := {
  mixed := by kernel_rfl
  f106 := Tryz.func92.trans (congrArg some (by kernel_rfl))
  f213 := Tryz.func129.trans (congrArg some (by kernel_rfl))
  f265 := Tryz.func165.trans (congrArg some (by kernel_rfl))
  t3 := Tryz.underlying3
  a3 := Tryz.isAgg3
  z3 := Tryz.sizeOf3
  v3 := Tryz.zeroValue3
  t9 := Tryz.underlying9
  a9 := Tryz.isAgg9
  z9 := Tryz.sizeOf9
  v9 := Tryz.zeroValue9 }
def Tryz.sortE_ren : Go.Shelf.Ren := ⟨fun | 6 => 90 | 15 => 128 | 14 => 127 | 28 => 163 | 29 => 164 | 20 => 155 | 21 => 156 | 22 => 157 | 23 => 158 | 24 => 159 | 25 => 160 | 26 => 161 | 27 => 162 | 46 => 196 | 47 => 197 | 48 => 198 | 49 => 199 | 50 => 200 | 57 => 219 | n => n, fun | 22 => 47 | 24 => 51 | 25 => 99 | 3 => 3 | 39 => 170 | 0 => 0 | 53 => 148 | 55 => 147 | 4 => 4 | 46 => 239 | 45 => 238 | 50 => 243 | 5 => 5 | 9 => 9 | 66 => 269 | 70 => 273 | 76 => 286 | 77 => 287 | n => n, fun | n => n⟩
theorem Tryz.sortE : Go.Proofs.SlLaysF0.n6 Tryz.prog Tryz.sortE_ren := {
  mixed := by kernel_rfl
  f6 := ⟨Tryz.f90.name, by decide, Tryz.func90.trans (congrArg some (by kernel_rfl))⟩
  f14 := ⟨Tryz.f127.name, by decide, Tryz.func127.trans (congrArg some (by kernel_rfl))⟩
  f15 := Tryz.func128.trans (congrArg some (by kernel_rfl))
  f20 := ⟨Tryz.f155.name, by decide, Tryz.func155.trans (congrArg some (by kernel_rfl))⟩
  f21 := ⟨Tryz.f156.name, by decide, Tryz.func156.trans (congrArg some (by kernel_rfl))⟩
  f22 := ⟨Tryz.f157.name, by decide, Tryz.func157.trans (congrArg some (by kernel_rfl))⟩
  f23 := ⟨Tryz.f158.name, by decide, Tryz.func158.trans (congrArg some (by kernel_rfl))⟩
  f24 := ⟨Tryz.f159.name, by decide, Tryz.func159.trans (congrArg some (by kernel_rfl))⟩
  f25 := ⟨Tryz.f160.name, by decide, Tryz.func160.trans (congrArg some (by kernel_rfl))⟩
  f26 := ⟨Tryz.f161.name, by decide, Tryz.func161.trans (congrArg some (by kernel_rfl))⟩
  f27 := ⟨Tryz.f162.name, by decide, Tryz.func162.trans (congrArg some (by kernel_rfl))⟩
  f28 := Tryz.func163.trans (congrArg some (by kernel_rfl))
  f29 := Tryz.func164.trans (congrArg some (by kernel_rfl))
  f46 := ⟨Tryz.f196.name, by decide, Tryz.func196.trans (congrArg some (by kernel_rfl))⟩
  f47 := Tryz.func197.trans (congrArg some (by kernel_rfl))
  f48 := Tryz.func198.trans (congrArg some (by kernel_rfl))
  f49 := ⟨Tryz.f199.name, by decide, Tryz.func199.trans (congrArg some (by kernel_rfl))⟩
  f50 := ⟨Tryz.f200.name, by decide, Tryz.func200.trans (congrArg some (by kernel_rfl))⟩
  f57 := ⟨Tryz.f219.name, by decide, Tryz.func219.trans (congrArg some (by kernel_rfl))⟩
  t0 := Tryz.underlying0
  a0 := Tryz.isAgg0
  z0 := Tryz.sizeOf0
  v0 := Tryz.zeroValue0
  t3 := Tryz.underlying3
  a3 := Tryz.isAgg3
  z3 := Tryz.sizeOf3
  v3 := Tryz.zeroValue3
  t4 := Tryz.underlying4
  a4 := Tryz.isAgg4
  z4 := Tryz.sizeOf4
  v4 := Tryz.zeroValue4
  t5 := Tryz.underlying5
  a5 := Tryz.isAgg5
  z5 := Tryz.sizeOf5
  v5 := Tryz.zeroValue5
  t9 := Tryz.underlying9
  a9 := Tryz.isAgg9
  z9 := Tryz.sizeOf9
  v9 := Tryz.zeroValue9
  t22 := Tryz.underlying47
  a22 := Tryz.isAgg47
  z22 := Tryz.sizeOf47
  v22 := Tryz.zeroValue47
  t25 := Tryz.underlying99
  a25 := Tryz.isAgg99
  z25 := Tryz.sizeOf99
  v25 := Tryz.zeroValue99
  t39 := Tryz.underlying170
  a39 := Tryz.isAgg170
  z39 := Tryz.sizeOf170
  v39 := Tryz.zeroValue170
  t45 := Tryz.underlying238
  a45 := Tryz.isAgg238
  z45 := Tryz.sizeOf238
  v45 := Tryz.zeroValue238
  t46 := Tryz.underlying239
  a46 := Tryz.isAgg239
  z46 := Tryz.sizeOf239
  v46 := Tryz.zeroValue239
  t50 := Tryz.underlying243
  a50 := Tryz.isAgg243
  z50 := Tryz.sizeOf243
  v50 := Tryz.zeroValue243
  t53 := Tryz.underlying148
  a53 := Tryz.isAgg148
  z53 := Tryz.sizeOf148
  v53 := Tryz.zeroValue148
  t55 := Tryz.underlying147
  a55 := Tryz.isAgg147
  z55 := Tryz.sizeOf147
  v55 := Tryz.zeroValue147
  t66 := Tryz.underlying269
  a66 := Tryz.isAgg269
  z66 := Tryz.sizeOf269
  v66 := Tryz.zeroValue269
  t70 := Tryz.underlying273
  a70 := Tryz.isAgg273
  z70 := Tryz.sizeOf273
  v70 := Tryz.zeroValue273
  t76 := Tryz.underlying286
  a76 := Tryz.isAgg286
  z76 := Tryz.sizeOf286
  v76 := Tryz.zeroValue286
  t77 := Tryz.underlying287
  a77 := Tryz.isAgg287
  z77 := Tryz.sizeOf287
  v77 := Tryz.zeroValue287 }
end Go.Proofs
/- Package object: entries compared by their places. -/
namespace Go.Proofs.YtbpdielmdhhdfaaGreatDoor
open Go.RowKit
set_option linter.unusedVariables false
set_option linter.unusedSimpArgs false
theorem Grew.refl (w : World) : Grew w w := ⟨0, #[], by simp [Sort.grow, World.drewN]⟩
theorem Grew.drew (w : World) : Grew w w.drew := ⟨1, #[], by rw [World.drew_is_drewN]; simp [Sort.grow]; rfl⟩
theorem Grew.trans {a b c : World} (h : Grew a b) (k : Grew b c) : Grew a c := by
  obtain ⟨q, os, rfl⟩ := h
  obtain ⟨q2, os2, rfl⟩ := k
  refine ⟨q + q2, os ++ os2, ?_⟩
  simp [Sort.grow, World.drewN, Nat.add_assoc, Array.append_assoc]
/-- How two entries compare. -/
def cmpE (x y : Er) : Int := Lib.compareBytes (keyB x) (keyB y)
theorem compare_any (a b : List UInt8) (w : World) : Calls Tryz.prog 92 #[.string ⟨a.toArray⟩, .string ⟨b.toArray⟩] w fun e w' => e = .returned (.int .i64 (Lib.compareBytes a b)) ∧ w' = w :=
  Any.strings_Compare Tryz.lays106 ⟨a.toArray⟩ ⟨b.toArray⟩ w
/-- Two entries' boxes. -/
structure Two (G H : Nat) (X Y : List Value) (W : World) : Prop where
  x : W.heap[G]? = some (.cells X.toArray 51 (0, 0))
  y : W.heap[H]? = some (.cells Y.toArray 51 (0, 0))
theorem Two.below {G H : Nat} {X Y : List Value} {W W' : World} (h : Two G H X Y W) (hb : Below W.heap.size W W') : Two G H X Y W' :=
  ⟨(hb.block _ (lt_of_some h.x)).trans h.x, (hb.block _ (lt_of_some h.y)).trans h.y⟩
theorem size51 : (Tryz.prog.info? 51).map (·.size) = some 22 := by kernel_rfl
theorem enter93 (v : Value) (w : World) : (callFunc 93 #[v]).run Tryz.prog w = .ok (.enter 93 #[v]) w := by kernel_rfl
theorem enter92 (v1 v2 : Value) (w : World) : (callFunc 92 #[v1, v2]).run Tryz.prog w = .ok (.enter 92 #[v1, v2]) w := by kernel_rfl
theorem erV_len (e : Er) (h : e.id.length = 20) : (erV e).length = 22 := by simp [erV, row_len, h]
set_option maxRecDepth 20000 in
theorem byOrder_any (x y : Er) (hx : x.name.length ≤ 1000000) (hy : y.name.length ≤ 1000000) (lx : x.id.length = 20) (ly : y.id.length = 20) (w : World) : Calls Tryz.prog 45 #[.agg (erV x).toArray, .agg (erV y).toArray] w fun e w' => e = .returned (.int .i64 (cmpE x y)) ∧ Grew w w' := by
  obtain ⟨X, HX⟩ : ∃ X : List Value, Hid (erV x = X) := ⟨_, rfl⟩
  obtain ⟨Y, HY⟩ : ∃ Y : List Value, Hid (erV y = Y) := ⟨_, rfl⟩
  obtain ⟨A, HA⟩ : ∃ A : ByteArray, Hid (⟨(keyB x).toArray⟩ = A) := ⟨_, rfl⟩
  obtain ⟨B, HB⟩ : ∃ B : ByteArray, Hid (⟨(keyB y).toArray⟩ = B) := ⟨_, rfl⟩
  have HPX : Hid (∀ w, Calls Tryz.prog 93 #[.agg X.toArray] w fun r w' => r = .returned (.string A) ∧ Grew w w') := fun w => by
    rw [← HX.out, ← HA.out]; exact placeName_any x hx lx w
  have HPY : Hid (∀ w, Calls Tryz.prog 93 #[.agg Y.toArray] w fun r w' => r = .returned (.string B) ∧ Grew w w') := fun w => by
    rw [← HY.out, ← HB.out]; exact placeName_any y hy ly w
  have HC : Hid (∀ w, Calls Tryz.prog 92 #[.string A, .string B] w fun e w' => e = .returned (.int .i64 (cmpE x y)) ∧ w' = w) := fun w => by
    rw [← HA.out, ← HB.out]; exact compare_any _ _ w
  have HLX : Hid ((Tryz.prog.info? 51).map (·.size) = some X.length) := hid (by rw [← HX.out, erV_len x lx]; exact size51)
  have HLY : Hid ((Tryz.prog.info? 51).map (·.size) = some Y.length) := hid (by rw [← HY.out, erV_len y ly]; exact size51)
  rw [HX.out, HY.out]
  clear hx hy lx ly
  obtain ⟨g, HG⟩ : ∃ g, Hid (g = w.heap.size) := ⟨_, rfl⟩
  obtain ⟨w0, HW0⟩ : ∃ w0, Hid (w0 = (w.alloc (Obj.cells X.toArray 51)).alloc (Obj.cells Y.toArray 51)) := ⟨_, rfl⟩
  have HGW : Hid (Grew w w0.drew) := hid (by rw [HW0.out]; exact ((Grew.alloc w _).trans (Grew.alloc _ _)).trans (Grew.drew _))
  have HT : Hid (Two g (g + 1) X Y w0.drew) := hid (by
    rw [HW0.out, HG.out]
    constructor
    · show ((w.heap.push _).push _)[w.heap.size]? = _
      rw [Array.getElem?_push, if_neg (by simp), Array.getElem?_push, if_pos rfl]
    · show ((w.heap.push _).push _)[w.heap.size + 1]? = _
      rw [Array.getElem?_push, if_pos (by simp)])
  go_enter Tryz.func45, Tryz.ntmps45
  go_wp2_with fail
  rw [← HG.out, ← HW0.out]
  refine wp_region_held_drew (S := Two g (g + 1) X Y) (by kernel_rfl) (by exact HT.out) (fun hHeld => ?_)
  generalize w0.drew = wd at hHeld HGW ⊢
  refine takeL (i := 0) (v := .agg X.toArray) rfl (by kernel_rfl) (by kernel_rfl) (by kernel_rfl) (fun _ _ _ h => h) (yieldsIf_load_mid (by rfl) 51 _ rfl g 0 (by rfl) X _ (fun w' h => range_row h.x) Tryz.underlying51 rfl HLX.out) hHeld ?_
  try simp only [Act.put, List.setIfInBounds_toArray, List.set_cons_zero, List.set_cons_succ]
  refine takeL (i := 2) (v := .agg Y.toArray) rfl (by kernel_rfl) (by kernel_rfl) (by kernel_rfl) (fun _ _ _ h => h) (yieldsIf_load_mid (by rfl) 51 _ rfl (g + 1) 0 (by rfl) Y _ (fun w' h => range_row h.y) Tryz.underlying51 rfl HLY.out) hHeld ?_
  try simp only [Act.put, List.setIfInBounds_toArray, List.set_cons_zero, List.set_cons_succ]
  refine wpAnyH_ready (rs := [1]) (by kernel_rfl) (by simp) ?_
  refine consL rfl (fun KK hKK => ?_) AllReadyH.nil
  refine step_callv (by rfl) 93 [.tmp 5] _ [.agg X.toArray] _ (by rfl) (by rfl) (enter93 _) (HPX.out _) ?_
  rintro e w1 ⟨rfl, g1⟩
  refine ⟨_, rfl, ?_⟩
  have HG1 : Hid (Grew w w1) := HGW.out.trans g1
  refine hKK.out _ _ (hHeld.below g1.below) (fun hHeld => ?_)
  clear hKK KK g1
  try simp only [Act.put, List.setIfInBounds_toArray, List.set_cons_zero, List.set_cons_succ]
  refine wpAnyH_ready (rs := [3]) (by kernel_rfl) (by simp) ?_
  refine consL rfl (fun KK hKK => ?_) AllReadyH.nil
  refine step_callv (by rfl) 93 [.tmp 7] _ [.agg Y.toArray] _ (by rfl) (by rfl) (enter93 _) (HPY.out _) ?_
  rintro e w2 ⟨rfl, g2⟩
  refine ⟨_, rfl, ?_⟩
  have HG2 : Hid (Grew w w2) := HG1.out.trans g2
  refine hKK.out _ _ (hHeld.below g2.below) (fun hHeld => ?_)
  clear hKK KK g2
  try simp only [Act.put, List.setIfInBounds_toArray, List.set_cons_zero, List.set_cons_succ]
  refine wpAnyH_ready (rs := [4]) (by kernel_rfl) (by simp) ?_
  refine consL rfl (fun KK hKK => ?_) AllReadyH.nil
  refine step_callv (by rfl) 92 [.tmp 6, .tmp 8] _ [.string A, .string B] _ (by rfl) (by rfl) (enter92 _ _) (HC.out _) ?_
  rintro e w3 ⟨rfl, hw3⟩
  refine ⟨_, rfl, ?_⟩
  have hw3' := hw3.symm
  subst hw3'
  refine hKK.out _ _ hHeld (fun hHeld => ?_)
  clear hKK KK hw3
  try simp only [Act.put, List.setIfInBounds_toArray, List.set_cons_zero, List.set_cons_succ]
  refine takeL (i := 5) (v := ?_) rfl (by kernel_rfl) (by kernel_rfl) (by kernel_rfl) (fun _ _ _ h => h) (Or.inl ⟨by rfl, ?_⟩) hHeld ?_
  rotate_left
  · rintro w' _; go_simp; rfl
  try simp only [Act.put, List.setIfInBounds_toArray, List.set_cons_zero, List.set_cons_succ]
  refine wpAnyH_done (by kernel_rfl) ?_ _
  go_wp2
  go_ret
  exact ⟨rfl, HG2.out⟩
end Go.Proofs.YtbpdielmdhhdfaaGreatDoor
