/- What is written of edits, plainly; 'count', 'start', 'place', 'hasEnd'. -/
import Derived.Test.YtjpihkheapjigaaDoorEdA
import Derived.Test.YtjpihkheapjigaaDoorPaP
import Derived.Test.YtjpihkheapjigaaDoorShP
import Derived.Shelf.Strconv.Itoa3
import Derived.Shelf.Strings.Prefix
import Derived.Lib.ItoaNum
import Derived.Shelf.SlSortCmp.NoneTotal
namespace Go.Proofs.YtjpihkheapjigaaDoor
open Go.RowKit
set_option linter.unusedVariables false
set_option linter.unusedSimpArgs false
theorem str_add (x y : Str) : (⟨x.toArray⟩ : ByteArray) ++ ⟨y.toArray⟩ = ⟨(x ++ y).toArray⟩ := by
  apply ByteArray.ext
  simp
/-- How many lines of a, and of b, edits have. -/
def cA (L : List Ed) : Nat := (L.filter (fun e => e.1 != 2)).length
def cB (L : List Ed) : Nat := (L.filter (fun e => e.1 != 1)).length
theorem cA_snoc (L : List Ed) (e : Ed) : cA (L ++ [e]) = cA L + if e.1 = 2 then 0 else 1 := by
  unfold cA
  rw [List.filter_append, List.length_append]
  by_cases h : e.1 = 2 <;> simp [h]
theorem cB_snoc (L : List Ed) (e : Ed) : cB (L ++ [e]) = cB L + if e.1 = 1 then 0 else 1 := by
  unfold cB
  rw [List.filter_append, List.length_append]
  by_cases h : e.1 = 1 <;> simp [h]
theorem cA_le (L : List Ed) : cA L ≤ L.length := List.length_filter_le _ _
theorem cB_le (L : List Ed) : cB L ≤ L.length := List.length_filter_le _ _
/-- What stands behind a line without an end. -/
def noE : Str := [10, 92, 32, 78, 111, 32, 110, 101, 119, 108, 105, 110, 101, 32, 97, 116, 32, 101, 110, 100, 32, 111, 102, 32, 102, 105, 108, 101, 10]
def sgn (k : Nat) : UInt8 := if k = 1 then 45 else if k = 2 then 43 else 32
def lineT (e : Ed) : Str := (sgn e.1 :: e.2) ++ if e.2.getLast? = some 10 then [] else noE
/-- Where so many lines stand, and how many they are. -/
def plc (a n : Nat) : Str := Lib.decDigits (a + min n 1) ++ (44 :: Lib.decDigits n)
/-- A hunk's edits. -/
def seg (L : List Ed) (s : Sp) : List Ed := (L.take s.2).drop s.1
def headT (a n b m : Nat) : Str := ([64, 64, 32, 45] ++ plc a n) ++ ([32, 43] ++ (plc b m ++ [32, 64, 64, 10]))
def hkT (L : List Ed) (s : Sp) : Str := headT (cA (L.take s.1)) (cA (seg L s)) (cB (L.take s.1)) (cB (seg L s)) ++ (seg L s).flatMap lineT
/-- The patch. -/
def patchT (L : List Ed) (c : Nat) : Str := (sps L c L.length).flatMap (hkT L)
theorem start_any (a n : Nat) (ha : a ≤ 100000) (w : World) : Calls Tryd.prog 34 #[.int .i64 (a : Int), .int .i64 (n : Int)] w fun e w' => e = .returned (.int .i64 ((a + min n 1 : Nat) : Int)) ∧ w' = w := by
  obtain ⟨m, HM⟩ : ∃ m, Hid (min n 1 = m) := ⟨_, rfl⟩
  have hmin : min (n : Int) 1 = (m : Int) := by rw [← HM.out]; omega
  have hm : m ≤ 1 := by rw [← HM.out]; omega
  rw [HM.out]
  go_enter Tryd.func34, Tryd.ntmps34
  go_wp2
  go_ret
  exact ⟨ret_int (by omega), rfl⟩
/-- The table of the powers of ten. -/
def Tab (w : World) : Prop := Lib.TabIs Tryd.prog w "internal/strconv.uint64pow10" .u64 Lib.pow10Tab
theorem itoa_nat (n : Nat) : Lib.itoa (n : Int) = Lib.decDigits n := by
  unfold Lib.itoa
  rw [if_neg (by omega)]
  simp
theorem itoa_any (n : Nat) (hn : n ≤ 100000) (w : World) (ht : Tab w) : Calls Tryd.prog 33 #[.int .i64 (n : Int)] w fun e w' => e = .returned (.string ⟨(Lib.decDigits n).toArray⟩) ∧ Below w.heap.size w w' := by
  refine (Any.strconv_Itoa Tryd.laysM171 n (by omega) (by omega) w ht).mono ?_
  rintro e w' ⟨rfl, k, os, rfl⟩
  rw [itoa_nat]
  refine ⟨rfl, rfl, rfl, rfl, by show _ ≤ (w.heap ++ os).size; simp, fun k hk => ?_⟩
  show (w.heap ++ os)[k]? = _
  rw [Array.getElem?_append_left hk]
end Go.Proofs.YtjpihkheapjigaaDoor
