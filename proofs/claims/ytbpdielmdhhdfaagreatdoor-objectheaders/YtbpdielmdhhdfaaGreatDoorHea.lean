/- The law 'ObjectHeaders': what its walk wants. -/
import Derived.Test.YtbpdielmdhhdfaaGreatDoorDes
import Derived.Test.YtbpdielmdhhdfaaGreatDoorIdR
namespace Go.Proofs.YtbpdielmdhhdfaaGreatDoor
open Go.RowKit
set_option linter.unusedVariables false
set_option linter.unusedSimpArgs false
/-- An object's bytes with their header; none, where it has none. -/
def encX (k : Int) (zs : List Int) : List Int := if errE k zs.length = 0 then encZ k zs else []
theorem encX_len (k : Int) (zs : List Int) (hl : zs.length ≤ 300000) : (encX k zs).length ≤ 200000 := by
  unfold encX
  split
  · rename_i he
    have := encZ_len k zs hl
    have := (fits_ok k _ he).2
    omega
  · simp
theorem encX_isB (k : Int) (zs : List Int) (h : IsB zs) : IsB (encX k zs) := by
  unfold encX
  split
  · exact encZ_isB k zs h
  · intro x hx; cases hx
/-- A slice made since. -/
structure New (w W : World) (a : Option Addr) (c : Nat) (l : List Int) : Prop where
  sl : Sl W a c l
  ge : ∀ b off, a = some ⟨b, off, none⟩ → w.heap.size ≤ b
theorem enc_x (k : Int) (a : Option Addr) (cap : Nat) (zs : List Int) (w : World) (ht : Tab w) (hl : zs.length ≤ 300000) (hS : Sl w a cap zs) :
    Calls Tryz.prog 9 #[.agg #[.int .i64 k, .slice a zs.length cap]] w fun e w' => ∃ ax cx, e = .returned (.tuple #[.slice ax (encX k zs).length cx, errV (errE k zs.length)]) ∧ New w w' ax cx (encX k zs) ∧ Below w.heap.size w w' := by
  refine (encode_any k a cap zs w ht hl hS).mono ?_
  rintro e w' ⟨hb, ⟨he, rfl⟩ | ⟨he, g, c1, rfl, h1, h2, h3, h4⟩⟩
  · refine ⟨none, 0, ?_, ⟨?_, fun b off e => by cases e⟩, hb⟩
    · unfold encX errV; rw [if_neg he, if_neg he]; rfl
    · unfold encX; rw [if_neg he]; exact ⟨Nat.le_refl _, (fun h => by cases h), fun _ => rfl⟩
  · refine ⟨some ⟨g, 0, none⟩, c1, ?_, ⟨?_, fun b off e => by cases e; exact h1⟩, hb⟩
    · unfold encX errV; rw [if_pos he, if_pos he]
    · unfold encX; rw [if_pos he]; exact ⟨h4, fun _ => ⟨g, 0, rfl, h2, h3⟩, fun e => by cases e⟩
theorem ref_x (k : Int) (a : Option Addr) (cap : Nat) (zs : List Int) (w : World) (hl : zs.length ≤ 300000) (hS : Sl w a cap zs) :
    Calls Tryz.prog 14 #[.agg #[.int .i64 k, .slice a zs.length cap]] w fun e w' => ∃ ax cx, e = .returned (.tuple #[.slice ax (encX k zs).length cx, .int .i64 (errE k zs.length)]) ∧ New w w' ax cx (encX k zs) ∧ Below w.heap.size w w' := by
  refine (refEncode_any k a cap zs w hl hS).mono ?_
  rintro e w' ⟨hb, ⟨he, rfl⟩ | ⟨he, g, c1, rfl, h1, h2, h3, h4⟩⟩
  · refine ⟨none, 0, ?_, ⟨?_, fun b off e => by cases e⟩, hb⟩
    · unfold encX; rw [if_neg he]; rfl
    · unfold encX; rw [if_neg he]; exact ⟨Nat.le_refl _, (fun h => by cases h), fun _ => rfl⟩
  · refine ⟨some ⟨g, 0, none⟩, c1, ?_, ⟨?_, fun b off e => by cases e; exact h1⟩, hb⟩
    · unfold encX; rw [if_pos he, he]
    · unfold encX; rw [if_pos he]; exact ⟨h4, fun _ => ⟨g, 0, rfl, h2, h3⟩, fun e => by cases e⟩
theorem tell_any (er : Int) (w : World) (hw : Lw w) : Calls Tryz.prog 11 #[errV er] w fun e w' => e = .returned (.int .i64 er) ∧ Below w.heap.size w w' := by
  unfold errV
  by_cases h : er = 0
  · rw [if_pos h, h]; exact tell_nil w
  · rw [if_neg h]; exact tell_errno er w hw.hand
theorem New.step {w W W' : World} {a : Option Addr} {c : Nat} {l : List Int} {r : Nat} (h : New w W a c l) (hg : W.grownBy W' (some r)) (hr : r < w.heap.size) : New w W' a c l :=
  ⟨h.sl.grown hg (fun b off e e2 => by cases e2; have := h.ge _ _ e; omega), h.ge⟩
/-- What the law's walk keeps: the object in its box; what is as it was. -/
structure Fx (w : World) (k : Int) (a : Option Addr) (n cap : Nat) (W : World) : Prop where
  below : Below w.heap.size w W
  c0 : W.cell? ⟨w.heap.size, 0, none⟩ = some (.int .i64 k)
  c1 : W.cell? ⟨w.heap.size, 1, none⟩ = some (.slice a n cap)
  lt : w.heap.size < W.heap.size
theorem Fx.step {w W W' : World} {k : Int} {a : Option Addr} {n cap r : Nat} (h : Fx w k a n cap W) (hg : W.grownBy W' (some r)) (hr : w.heap.size < r) : Fx w k a n cap W' :=
  ⟨h.below.grown hg (Nat.le_of_lt h.lt) (fun q hq => by cases hq; omega), (World.cell?_of_block (a := ⟨w.heap.size, 0, none⟩) (hg.block _ h.lt (by simp; omega))).trans h.c0,
    (World.cell?_of_block (a := ⟨w.heap.size, 1, none⟩) (hg.block _ h.lt (by simp; omega))).trans h.c1, Nat.lt_of_lt_of_le h.lt hg.size⟩
theorem Fx.on {w W W' : World} {k : Int} {a : Option Addr} {n cap : Nat} (h : Fx w k a n cap W) (hb : Below W.heap.size W W') : Fx w k a n cap W' := h.step (r := w.heap.size + 1) (grown_of_below hb _) (by omega)
theorem range_step {W W' : World} {g r : Nat} {cs : List Value} (h : W.rangeAt g 0 cs) (hg : W.grownBy W' (some r)) (hlt : g < W.heap.size) (hne : g ≠ r) : W'.rangeAt g 0 cs := fun j v hv =>
  (World.cell?_of_block (a := ⟨g, 0 + j, none⟩) (hg.block g hlt (by simp; exact hne))).trans (h j v hv)
set_option maxHeartbeats 400000 in
theorem walkH_long (k : Int) (a a' : Option Addr) (len len' cap cap' : Nat) (w : World) (h : 300000 < len + len') (hm : len ≤ 200000000000000) (hm' : len' ≤ 200000000000000) :
    Calls Tryz.prog 3 #[.agg #[.int .i64 k, .slice a len cap], .slice a' len' cap'] w fun e w' => e = .returned (.bool true) ∧ Below w.heap.size w w' := by
  have h1 : (300000 : Int) < len + len' := by omega
  have HB : Hid (∀ o, Below w.heap.size w (w.alloc o)) := fun o => (Below.refl _ w).alloc (Nat.le_refl _) _
  go_enter Tryz.func3, Tryz.ntmps3
  go_wp2
  go_ret
  exact ⟨rfl, HB.out _⟩
end Go.Proofs.YtbpdielmdhhdfaaGreatDoor
