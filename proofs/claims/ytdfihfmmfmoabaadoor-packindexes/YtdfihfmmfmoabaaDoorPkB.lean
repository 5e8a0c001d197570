/- Numbers in four bytes: 'appendNumber', 'put'. -/
import Derived.Test.YtdfihfmmfmoabaaDoorPkA
namespace Go.Proofs.YtdfihfmmfmoabaaDoor
open Go.RowKit
set_option linter.unusedVariables false
set_option linter.unusedSimpArgs false
/-- A number in four bytes, the highest first. -/
def n4 (n : Nat) : List Int := [((n / 16777216 % 256 : Nat) : Int), ((n / 65536 % 256 : Nat) : Int), ((n / 256 % 256 : Nat) : Int), ((n % 256 : Nat) : Int)]
theorem n4_len (n : Nat) : (n4 n).length = 4 := rfl
theorem n4_isB (n : Nat) : IsB (n4 n) := by
  intro x hx
  simp only [n4, List.mem_cons, List.not_mem_nil, or_false] at hx
  rcases hx with rfl | rfl | rfl | rfl <;> omega
theorem sl_four (w : World) (a b c d : Int) : Sl (w.alloc (.cells #[.int .u8 a, .int .u8 b, .int .u8 c, .int .u8 d] 5)) (some ⟨w.heap.size, 0, none⟩) 4 [a, b, c, d] :=
  ⟨by simp, fun _ => ⟨w.heap.size, 0, rfl, by simp, fun i hi => by
    have h4 : i < 4 := hi
    match i, h4 with
    | 0, _ => simp
    | 1, _ => simp
    | 2, _ => simp
    | 3, _ => simp⟩, fun h => by cases h⟩
/-- What an append to one's own bytes leaves. -/
def PoA (w0 w : World) (B : Nat) (v : Value) (out : List Int) (e : Ending) (w' : World) : Prop := ∃ v', e = .returned v' ∧ Bd w0 w' B v' out ∧ w.grownBy w' v.ownBlock
theorem n4_int (n : Nat) (hn : n < 4294967296) : n4 n = [(n : Int) / 16777216, (n : Int) / 65536 % 256, (n : Int) / 256 % 256, (n : Int) % 256] := by
  unfold n4
  congr 1
  omega
set_option maxRecDepth 20000 in
set_option maxHeartbeats 1000000 in
theorem appendNumber_any (w0 w : World) (B : Nat) (v : Value) (out : List Int) (n : Nat) (hn : n < 4294967296) (hb : Bd w0 w B v out) (hl : out.length ≤ 900000) :
    Calls Tryd.prog 13 #[v, .int .u32 n] w (PoA w0 w B v (out ++ n4 n)) := by
  have HN : Hid (n4 n = [(n : Int) / 16777216, (n : Int) / 65536 % 256, (n : Int) / 256 % 256, (n : Int) % 256]) := n4_int n hn
  obtain ⟨w1, HW1⟩ : ∃ w1, Hid (w.alloc (.cells #[.int .u8 ((n : Int) / 16777216), .int .u8 ((n : Int) / 65536 % 256), .int .u8 ((n : Int) / 256 % 256), .int .u8 ((n : Int) % 256)] 5) = w1) := ⟨_, rfl⟩
  have HB1 : Hid (Bd w0 w1 B v out) := hid (by rw [← HW1.out]; exact hb.alloc _)
  have HS1 : Hid (Sl w1 (some ⟨w.heap.size, 0, none⟩) 4 [(n : Int) / 16777216, (n : Int) / 65536 % 256, (n : Int) / 256 % 256, (n : Int) % 256]) := hid (by rw [← HW1.out]; exact sl_four _ _ _ _ _)
  have HG1 : Hid (w.grownBy w1 v.ownBlock) := hid (by rw [← HW1.out]; exact World.grownBy_alloc w _ _)
  have hl4 : out.length + [(n : Int) / 16777216, (n : Int) / 65536 % 256, (n : Int) / 256 % 256, (n : Int) % 256].length ≤ 1000000 := by simp; omega
  clear hb
  go_enter Tryd.func13, Tryd.ntmps13
  go_wp2_with (first
    | (at_builtin; rw [HW1.out]; refine wpList_bd_slG rfl _ _ rfl B _ out rfl HB1.out (some ⟨w.heap.size, 0, none⟩) 4 [(n : Int) / 16777216, (n : Int) / 65536 % 256, (n : Int) / 256 % 256, (n : Int) % 256] rfl HS1.out hl4 ?_; intro v2 w2 hb2 hg2; have HB2 : Hid (Bd w0 w2 B v2 (out ++ n4 n)) := hid (by rw [HN.out]; exact hb2); have HG2 : Hid (w.grownBy w2 v.ownBlock) := HG1.out.trans hg2; clear hb2 hg2)
    | fail)
  go_ret
  exact ⟨_, rfl, HB2.out, HG2.out⟩
set_option maxRecDepth 20000 in
set_option maxHeartbeats 1000000 in
theorem put_any (w0 w : World) (B : Nat) (v : Value) (out : List Int) (n : Nat) (hn : n < 4294967296) (hb : Bd w0 w B v out) (hl : out.length ≤ 900000) :
    Calls Tryd.prog 16 #[v, .int .u32 n] w (PoA w0 w B v (out ++ n4 n)) := by
  have HN : Hid (n4 n = [(n : Int) / 16777216, (n : Int) / 65536 % 256, (n : Int) / 256 % 256, (n : Int) % 256]) := n4_int n hn
  obtain ⟨w1, HW1⟩ : ∃ w1, Hid (w.alloc (.cells #[.int .u8 ((n : Int) / 16777216), .int .u8 ((n : Int) / 65536 % 256), .int .u8 ((n : Int) / 256 % 256), .int .u8 ((n : Int) % 256)] 5) = w1) := ⟨_, rfl⟩
  have HB1 : Hid (Bd w0 w1 B v out) := hid (by rw [← HW1.out]; exact hb.alloc _)
  have HS1 : Hid (Sl w1 (some ⟨w.heap.size, 0, none⟩) 4 [(n : Int) / 16777216, (n : Int) / 65536 % 256, (n : Int) / 256 % 256, (n : Int) % 256]) := hid (by rw [← HW1.out]; exact sl_four _ _ _ _ _)
  have HG1 : Hid (w.grownBy w1 v.ownBlock) := hid (by rw [← HW1.out]; exact World.grownBy_alloc w _ _)
  have hl4 : out.length + [(n : Int) / 16777216, (n : Int) / 65536 % 256, (n : Int) / 256 % 256, (n : Int) % 256].length ≤ 1000000 := by simp; omega
  clear hb
  go_enter Tryd.func16, Tryd.ntmps16
  go_wp2_with (first
    | (at_builtin; rw [HW1.out]; refine wpList_bd_slG rfl _ _ rfl B _ out rfl HB1.out (some ⟨w.heap.size, 0, none⟩) 4 [(n : Int) / 16777216, (n : Int) / 65536 % 256, (n : Int) / 256 % 256, (n : Int) % 256] rfl HS1.out hl4 ?_; intro v2 w2 hb2 hg2; have HB2 : Hid (Bd w0 w2 B v2 (out ++ n4 n)) := hid (by rw [HN.out]; exact hb2); have HG2 : Hid (w.grownBy w2 v.ownBlock) := HG1.out.trans hg2; clear hb2 hg2)
    | fail)
  go_ret
  exact ⟨_, rfl, HB2.out, HG2.out⟩
end Go.Proofs.YtdfihfmmfmoabaaDoor
