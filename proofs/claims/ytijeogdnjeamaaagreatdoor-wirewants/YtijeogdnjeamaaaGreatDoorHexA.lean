/- 'Hex'. -/
import Derived.Test.YtijeogdnjeamaaaGreatDoorWaC
import Derived.Deep.AppendLies
import Derived.Deep.LoopGhost
import Derived.Deep.RegionWith
import Derived.Deep.QuietTactic
import Derived.BigQuiet
import Derived.WalkLawsBesides
import Derived.WalkSpells
import Derived.Laws.BitsAllLaws
import Derived.Laws.CopyOwn
import Derived.Laws.IdiomCopy
import Derived.Deep.RegionHeld3
import Derived.Deep.RegionLaw
import Derived.Deep.DrawnRows
import Derived.Deep.MidRow
import Derived.Laws.BytesArg
import Derived.Laws.Externs
namespace Go.Proofs.YtijeogdnjeamaaaGreatDoor.Hx
open Go.RowKit
set_option linter.unusedVariables false

theorem Tryz.info5 : (Tryz.prog.info? 5).map (fun i => (i.zero, i.size, i.bytes)) = some (some (.int .u8 0), 1, 1) := by kernel_rfl
theorem Tryz.info68 : (Tryz.prog.info? 68).map (·.size) = some 20 := by kernel_rfl
theorem Tryz.info67 : (Tryz.prog.info? 67).map (·.size) = some 20 := by kernel_rfl
theorem info_parts {o : Option TypeInfo} {z : Value} {a b : Nat} (h : o.map (fun i => (i.zero, i.size, i.bytes)) = some (some z, a, b)) : ∃ i, o = some i ∧ i.zero = some z ∧ i.size = a ∧ i.bytes = b := by
  cases o with
  | none => simp at h
  | some i => simp at h; exact ⟨i, rfl, h.1, h.2.1, h.2.2⟩
def row (zs : List Int) : List Value := zs.map (Value.int .u8)
theorem row_len (zs : List Int) : (row zs).length = zs.length := by simp [row]
theorem row_at (zs : List Int) (i : Nat) (h : i < zs.length) : (row zs)[i]? = some (.int .u8 (zs.getD i 0)) := by simp [row, h]
theorem row_one (zs : List Int) : ∀ v ∈ row zs, v.oneCell' = true := by
  intro v hv; simp only [row, List.mem_map] at hv; obtain ⟨c, _, rfl⟩ := hv; rfl
theorem row_set (zs : List Int) (n : Nat) (c : Int) : (row zs).toArray.setIfInBounds n (.int .u8 c) = (row (zs.set n c)).toArray := by
  simp [row, List.map_set]
theorem row_cell {w : World} {g : Nat} {zs : List Int} {t : TypeId} {fr : Nat × Nat} (h : w.heap[g]? = some (.cells (row zs).toArray t fr)) (i : Nat) (hi : i < zs.length) : w.cell? ⟨g, i, none⟩ = some (.int .u8 (zs.getD i 0)) := by
  rw [cell_of_row w g i _ t fr h]; simpa using row_at zs i hi
theorem range_row {w : World} {g : Nat} {cs : List Value} {t : TypeId} {fr : Nat × Nat} (h : w.heap[g]? = some (.cells cs.toArray t fr)) : w.rangeAt g 0 cs := fun j v hv => by
  rw [Nat.zero_add, cell_of_row w g j _ t fr h]; simpa using hv
theorem there_row {w : World} {g n : Nat} {zs : List Int} {t : TypeId} (h : w.heap[g]? = some (.cells (row zs).toArray t (0, 0))) (hn : zs.length = n) : w.there g 0 n := fun j hj => by
  rw [Nat.zero_add]
  exact ⟨by rw [row_cell h j (by omega)]; rfl, frozen_of_row w g j _ t h⟩
def dig (n : Int) : Int := if n < 10 then 48 + n else 87 + n
def hexOf (zs : List Int) : List Int := zs.flatMap fun x => [dig (x / 16), dig (x % 16)]
theorem hexOf_snoc (l : List Int) (x : Int) : hexOf (l ++ [x]) = hexOf l ++ [dig (x / 16), dig (x % 16)] := by simp [hexOf]
theorem hexOf_len (l : List Int) : (hexOf l).length = 2 * l.length := by
  induction l with
  | nil => rfl
  | cons a l ih => simp [hexOf] at ih ⊢; omega
theorem take_snoc (zs : List Int) (k : Nat) (h : k < zs.length) : zs.take (k + 1) = zs.take k ++ [zs.getD k 0] := by
  rw [List.take_succ_eq_append_getElem h]; simp [h]

theorem index_row {P : Program} (t e : TypeId) (n : Nat) (cs : Array Value) (k : IntKind) (i : Nat) (v : Value) (w : World) (h : P.underlying t = some (.array n e)) (he : (P.info? e).map (·.size) = some 1) (d : TypeDesc) (hu : P.underlying e = some d) (hd : d.isRow = false) (hi : i < n) (hv : cs[i]? = some v) :
    (Instr.index t (.agg cs) (.int k i)).run P w = .ok v w := by
  cases hq : P.info? e with
  | none => simp [hq] at he
  | some inf =>
    have hs : inf.size = 1 := by simpa [hq] using he
    have hagg : (isAgg e).run P w = .ok false w := by
      unfold isAgg
      rw [Sem.run_bind, run_underlying hu w]
      cases d <;> simp_all
    simp [Instr.index, asIntOf, run_underlying h, hi, part, sizeOf, typeInfo, hq, hs, hagg, hv]
theorem Tryz.size5 : (Tryz.prog.info? 5).map (·.size) = some 1 := by kernel_rfl
def digs : ByteArray := { data := #[48, 49, 50, 51, 52, 53, 54, 55, 56, 57, 97, 98, 99, 100, 101, 102] }
theorem index_digs (v : Int) (w : World) (h0 : 0 ≤ v) (h1 : v < 16) : (Instr.index 9 (.string { data := #[48, 49, 50, 51, 52, 53, 54, 55, 56, 57, 97, 98, 99, 100, 101, 102] }) (.int .u8 v)).run Tryz.prog w = .ok (.int .u8 (dig v)) w := by
  obtain ⟨n, rfl⟩ := Int.eq_ofNat_of_zero_le h0
  have hn : n < 16 := by omega
  match n, hn with
  | 0, _ => show _ = _; kernel_rfl
  | 1, _ => show _ = _; kernel_rfl
  | 2, _ => show _ = _; kernel_rfl
  | 3, _ => show _ = _; kernel_rfl
  | 4, _ => show _ = _; kernel_rfl
  | 5, _ => show _ = _; kernel_rfl
  | 6, _ => show _ = _; kernel_rfl
  | 7, _ => show _ = _; kernel_rfl
  | 8, _ => show _ = _; kernel_rfl
  | 9, _ => show _ = _; kernel_rfl
  | 10, _ => show _ = _; kernel_rfl
  | 11, _ => show _ = _; kernel_rfl
  | 12, _ => show _ = _; kernel_rfl
  | 13, _ => show _ = _; kernel_rfl
  | 14, _ => show _ = _; kernel_rfl
  | 15, _ => show _ = _; kernel_rfl

theorem and15 (x : Int) (h0 : 0 ≤ x) (h1 : x < 256) : bits .and .u8 x 15 = x % 16 := by
  obtain ⟨n, rfl⟩ := Int.eq_ofNat_of_zero_le h0
  have : ∀ n : Nat, n < 256 → bits .and .u8 (n : Int) 15 = (n : Int) % 16 := by decide +kernel
  exact this n (by omega)
theorem grownBy_allocD (w : World) (o : Obj) (row : Option Nat) : w.grownBy (w.alloc o).drew row := let h := World.grownBy_alloc w o row; ⟨h.os, h.tape, h.output, h.size, h.block⟩
theorem own_lt {w : World} {B : Nat} {e : TypeId} {s : Nat} {v : Value} {n : Nat} {xs : List Value} (h : w.ownsRow B e s v n xs) (k : Nat) (hk : v.ownBlock = some k) : B ≤ k ∧ k < w.heap.size := h.lt k hk
theorem below_step {B : Nat} {w0 w wx w3 : World} {r : Option Nat} (h : Below B w0 w) (hB : B ≤ w0.heap.size) (hx : w.grownBy wx none) (hg : wx.grownBy w3 r) (hr : ∀ k, r = some k → B ≤ k) : Below B w0 w3 :=
  (h.grown hx (Nat.le_trans hB h.size) (fun k h => by cases h)).grown hg (Nat.le_trans (Nat.le_trans hB h.size) hx.size) hr
set_option maxRecDepth 20000 in
set_option maxHeartbeats 1000000 in
theorem hex_prog (zs : List Int) (w : World) (hl : zs.length = 20) (hz : ∀ n ∈ zs, 0 ≤ n ∧ n < 256) :
    Calls Tryz.prog 30 #[.agg (row zs).toArray] w fun e w' => e = .returned (.string (strOfNums (hexOf zs))) ∧ Below w.heap.size w w' := by
  obtain ⟨i5, hi, hz0, hz1, hz2⟩ := info_parts Tryz.info5
  obtain ⟨arr, HA⟩ : ∃ arr, Hid (arr = row zs) := ⟨_, rfl⟩
  rw [← HA.out]
  have hsz : arr.toArray.size = 20 := by rw [HA.out, List.size_toArray, row_len]; exact hl
  have HB0 : Hid (Below w.heap.size w (w.alloc (.cells arr.toArray 68))) := (Below.refl _ w).alloc (Nat.le_refl _) _
  have HC0 : Hid ((w.alloc (.cells arr.toArray 68)).rangeAt w.heap.size 0 arr) := range_row (heap_alloc_new w _)
  go_enter Tryz.func30, Tryz.ntmps30
  go_wp2_with (at_make; refine wpList_make_own _ rfl _ _ 25 rfl w.heap.size 5 i5 (.int .u8 0) 1 Tryz.underlying25 hi hz0 hz1 _ _ _ 40 rfl rfl ?c1 ?c2 ?c3 ?c4 ?_)
  case c1 => rfl
  case c2 => rw [hz2]; omega
  case c3 => unfold maxLen; omega
  case c4 => simp
  · intro w1 hown hgrow
    have HC1 : w1.rangeAt w.heap.size 0 arr := fun j v hj => (World.cell?_of_block (a := ⟨w.heap.size, 0 + j, none⟩) (hgrow.block _ (by simp) (by simp))).trans (HC0.out j v hj)
    have HB1 : Hid (Below w.heap.size w w1) := HB0.out.grown hgrow (by simp) (fun k h => by cases h)
    clear HB0 hgrow HC0
    have hi23 : (Tryz.prog.info? 68).map (·.size) = some arr.length := by rw [Tryz.info68, ← hsz]; simp
    go_wp2_with (refine wpList_load_mid rfl 68 _ rfl w.heap.size 0 rfl arr _ HC1 Tryz.underlying68 rfl hi23 ?_)
    clear HC1
    go_loopg [3, 8] 20 (fun k s i wr => ∃ j g cp : Nat, j ≤ 20 ∧ k = 20 - j ∧ i = .int .i64 j ∧ s = .slice (some ⟨g, 0, none⟩) (2 * j) cp ∧ wr.ownsRow w.heap.size 5 1 (.slice (some ⟨g, 0, none⟩) (2 * j) cp) (2 * j) ((hexOf (zs.take j)).map (Value.int .u8)) ∧ Hid (Below w.heap.size w wr))
    case atStart => exact ⟨0, _, _, by omega, rfl, rfl, rfl, by simpa [hexOf] using hown, HB1⟩
    case round =>
      clear hown HB1
      obtain ⟨j, g, cp, hj, hk, rfl, rfl, hown, HB⟩ := hrel
      by_cases hlt : j < 20
      · obtain ⟨x, HX⟩ : ∃ x, Hid (x = zs.getD j 0) := ⟨_, rfl⟩
        have hg : arr.toArray[j]? = some (.int .u8 x) := by rw [HA.out, HX.out]; simpa using row_at zs j (by omega)
        have hx := hz x (by rw [HX.out, List.getD_eq_getElem?_getD, List.getElem?_eq_getElem (by omega)]; exact List.getElem_mem _)
        have hix : ∀ w1 : World, (Instr.index 68 (.agg arr.toArray) (.int .i64 j)).run Tryz.prog w1 = .ok (.int .u8 x) w1 := fun w1 => index_row 68 5 20 _ _ j _ w1 Tryz.underlying68 Tryz.size5 _ Tryz.underlying5 rfl hlt hg
        obtain ⟨p, HP⟩ : ∃ p, Hid (p = x / 16) := ⟨_, rfl⟩
        obtain ⟨q, HQ⟩ : ∃ q, Hid (q = x % 16) := ⟨_, rfl⟩
        have hp : x / 16 = p := HP.out.symm
        have hq : bits .and .u8 x 15 = q := by rw [HQ.out]; exact and15 x hx.1 hx.2
        have hdp : ∀ w1 : World, (Instr.index 9 (.string { data := #[48, 49, 50, 51, 52, 53, 54, 55, 56, 57, 97, 98, 99, 100, 101, 102] }) (.int .u8 p)).run Tryz.prog w1 = .ok (.int .u8 (dig p)) w1 := fun w1 => index_digs p w1 (by omega) (by omega)
        have hdq : ∀ w1 : World, (Instr.index 9 (.string { data := #[48, 49, 50, 51, 52, 53, 54, 55, 56, 57, 97, 98, 99, 100, 101, 102] }) (.int .u8 q)).run Tryz.prog w1 = .ok (.int .u8 (dig q)) w1 := fun w1 => index_digs q w1 (by rw [HQ.out]; omega) (by rw [HQ.out]; omega)
        obtain ⟨dp, HDP⟩ : ∃ d, Hid (d = dig p) := ⟨_, rfl⟩
        obtain ⟨dq, HDQ⟩ : ∃ d, Hid (d = dig q) := ⟨_, rfl⟩
        rw [← HDP.out] at hdp
        rw [← HDQ.out] at hdq
        go_wp2
        go_region_law ((refine step_append_lies _ (by rfl) _ _ _ (by rfl) w.heap.size 5 i5 (.int .u8 0) 1 1 Tryz.underlying25 hi hz0 hz1 hz2 rfl (by omega) (.slice (some ⟨g, 0, none⟩) (2 * j) cp) (2 * j) ((hexOf (zs.take j)).map (Value.int .u8)) (by rfl) (by exact hown.alloc _) ⟨wr.heap.size, 0, none⟩ 2 2 [.int .u8 dp, .int .u8 dq] (by rfl) (by rfl) (by intro j u hj; match j, hj with | 0, hj => simp at hj; subst hj; simp [Addr.add] | 1, hj => simp at hj; subst hj; simp [Addr.add]) (by intro u hu; simp at hu; rcases hu with rfl | rfl <;> rfl) (by omega) (by unfold maxLen; omega) (by omega) (by have := HB.out.size; simp; omega) (wr.heap.size + 1) (by simp) ?_; intro g2 cp2 w3 hown1 hgrow hat hlt))
        all_goals
          have HB2 : Hid (Below w.heap.size w w3) := below_step HB.out (Nat.le_refl _) (grownBy_allocD wr _ none) hgrow (fun k hk => (own_lt hown k hk).1)
          have HO : Hid (w3.ownsRow w.heap.size 5 1 (.slice (some ⟨g2, 0, none⟩) (2 * (j + 1)) cp2) (2 * (j + 1)) ((hexOf (zs.take (j + 1))).map (Value.int .u8))) := by
            show World.ownsRow _ _ _ _ _ _ _
            rw [take_snoc zs j (by omega), hexOf_snoc, List.map_append, ← HX.out, ← HP.out, ← HQ.out, List.map_cons, List.map_cons, List.map_nil, ← HDP.out, ← HDQ.out]
            exact hown1
          clear hown1 hgrow hat hown
          go_wp2
          go_roundg (20 - (j + 1))
          case measure => omega
          case rel => exact ⟨j + 1, g2, cp2, by omega, rfl, by go_num, rfl, HO.out, HB2⟩
      · obtain rfl : j = 20 := by omega
        have hcv : ∀ dst, Tryz.prog.underlying dst = some .string → (convert 25 dst (.slice (some ⟨g, 0, none⟩) 40 cp)).run Tryz.prog wr = .ok (.string (strOfNums (hexOf zs))) wr :=
          run_convert_bytes_arg wr 25 5 Tryz.underlying25 Tryz.underlying5 g 0 40 cp (hexOf zs) (by rw [hexOf_len]; omega) fun i hi => by
            rw [Nat.zero_add, hown.cellAt i (by omega), List.take_of_length_le (by omega), List.getElem?_map, List.getElem?_eq_getElem (by rw [hexOf_len]; omega)]
            simp [show i < (hexOf zs).length by rw [hexOf_len]; omega]
        have hcv9 := hcv 9 Tryz.underlying9
        clear hcv hown
        go_wp2
        go_ret
        exact ⟨rfl, HB.out⟩
end Go.Proofs.YtijeogdnjeamaaaGreatDoor.Hx
