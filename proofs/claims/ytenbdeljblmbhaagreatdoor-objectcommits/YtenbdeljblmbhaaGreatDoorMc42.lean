import Derived.Test.YtenbdeljblmbhaaGreatDoorMc40
import Derived.Test.YtenbdeljblmbhaaGreatDoorMc27
import Derived.Test.YtenbdeljblmbhaaGreatDoorMc41
/- The document's side of chapter 3: 'ID'; the law's 'theirs'. -/
namespace Go.Proofs.YtenbdeljblmbhaaGreatDoor
open Go.RowKit
set_option linter.unusedVariables false
set_option linter.unusedSimpArgs false
theorem Tryz.results15 : Tryz.f15.results = #[.cell 2 31, .tmp 3] := by kernel_rfl
theorem Tryz.results13 : Tryz.f13.results = #[.cell 2 39] := by kernel_rfl
theorem Tryz.size39 : (Tryz.prog.info? 39).map (·.size) = some 2 := by kernel_rfl
theorem zero31 (w : World) : (zeroValue 31).run Tryz.prog w = .ok (.agg (row .u8 z20).toArray) w := by kernel_rfl
set_option maxRecDepth 20000 in
set_option maxHeartbeats 2000000 in
theorem refID_any (k : Int) (a : Option Addr) (cap : Nat) (zs : List Int) (w : World) (hl : zs.length ≤ 300000) (hz : IsB zs) (hS : Sl w a cap zs) :
    Calls Tryz.prog 15 #[.agg #[.int .i64 k, .slice a zs.length cap]] w fun e w' => e = .returned (.tuple #[.agg (row .u8 (idZ k zs)).toArray, .int .i64 (errE k zs.length)]) ∧ Below w.heap.size w w' := by
  obtain ⟨zr, HZ⟩ : ∃ zr : Array Value, Hid (zr = (row .u8 z20).toArray) := ⟨_, rfl⟩
  have hz25 := zero31
  rw [← HZ.out] at hz25
  obtain ⟨n, HN⟩ : ∃ n, Hid (zs.length = n) := ⟨_, rfl⟩
  obtain ⟨fr, HE⟩ : ∃ fr, Hid (fr = idZ k zs) := ⟨_, rfl⟩
  have hfl : fr.length = 20 := by rw [HE.out]; exact idZ_len _ _
  have hi25 : (Tryz.prog.info? 31).map (·.size) = some (row .u8 fr).length := by rw [row_len, hfl]; exact Tryz.size31
  have T2 : Hid ((Tryz.prog.info? 31).map (·.size) = some (row .u8 fr).toArray.size) := hid (by rw [row_size, hfl]; exact Tryz.size31)
  have T3 : Hid ((row .u8 fr).toArray.all (·.oneCell') = true) := all_oneCell_toArray (row_one _ _)
  obtain ⟨G, HG⟩ : ∃ G, Hid (w.heap.size = G) := ⟨_, rfl⟩
  obtain ⟨w0, HW0⟩ : ∃ w0, Hid ((w.alloc (.cells #[.int .i64 k, .slice a n cap] 39)).alloc (.cells zr 31) = w0) := ⟨_, rfl⟩
  have hs0 : w0.heap.size = G + 2 := by rw [← HW0.out, ← HG.out]; simp
  have hc0 : w0.cell? ⟨G, 0, none⟩ = some (.int .i64 k) := by rw [← HW0.out, ← HG.out]; simp
  have hc1 : w0.cell? ⟨G, 1, none⟩ = some (.slice a n cap) := by rw [← HW0.out, ← HG.out]; simp
  have HR0 : Hid (w0.heap[G + 1]? = some (.cells (row .u8 z20).toArray 31 (0, 0))) := hid (by
    have := heap_alloc_new (w.alloc (.cells #[.int .i64 k, .slice a n cap] 39)) (.cells zr 31)
    rw [HW0.out, HZ.out] at this
    rw [← HG.out]; simpa using this)
  have HB0 : Hid (Below G w w0) := hid (by rw [← HW0.out, ← HG.out]; exact ((Below.refl _ w).alloc (Nat.le_refl _) _).alloc (by simp) _)
  have HEN : Hid (Calls Tryz.prog 14 #[.agg #[.int .i64 k, .slice a n cap]] w0 (PostR k zs w0)) := by
    rw [← HN.out]
    exact refEncode_any k a cap zs w0 hl (hS.below (by rw [HG.out]; exact HB0.out))
  replace hs0 := hid hs0
  rw [HN.out]
  go_enter Tryz.func15, Tryz.ntmps15
  go_wp2_with fail
  rw [HG.out, HW0.out]
  clear hS
  have hl' : Hid (zs.length ≤ 300000) := hl
  clear hl
  refine HEN.out.mono ?_
  rintro ev w1 ⟨hb1, ⟨he, rfl⟩ | ⟨he, g, c1, rfl, h1, h2, h3, h4⟩⟩
  · have hb1s := hb1.size
    rw [hs0.out] at hb1 hb1s
    have HR1 : Hid (w1.heap[G + 1]? = some (.cells (row .u8 z20).toArray 31 (0, 0))) := (hb1.block _ (by omega)).trans HR0.out
    have HB1 : Hid (Below G w w1) := HB0.out.trans (hb1.mono (by omega))
    obtain ⟨er, HER⟩ : ∃ er, Hid (er = errE k zs.length) := ⟨_, rfl⟩
    have HV : Hid (errE k n = er) := hid (by rw [← HN.out, HER.out])
    rw [← HER.out]
    have hfr : fr = z20 := by rw [HE.out]; unfold idZ; rw [if_neg he]
    have T1 : Hid (w1.there (G + 1) 0 (row .u8 fr).toArray.size) := hid (by rw [row_size, hfl]; exact there_row HR1.out rfl)
    have T4 : Hid (w1.there (G + 1) 0 (row .u8 fr).length) := hid (by rw [row_len, hfl]; exact there_row HR1.out rfl)
    obtain rfl : zr = (row .u8 fr).toArray := by rw [HZ.out, hfr]
    have her : ¬ er = 0 := by rw [HER.out]; exact he
    have her2 : (er == 0) = false := by simpa using her
    clear hb1 hfr he hc0 hc1
    go_wp2_with (refine wpList_store_mid rfl 31 _ _ rfl (G + 1) 0 (row .u8 fr).toArray rfl rfl T1.out T2.out T3.out ?_)
    exact bodyPost_ret (v := .tuple #[.agg (row .u8 fr).toArray, .int .i64 er]) (results_mid2 Tryz.results15 _ _ (G + 1) _ _ rfl (World.rangeAt_setCells_same w1 (G + 1) 0 _ T4.out) Tryz.underlying31 rfl hi25) rfl ⟨by rw [HV.out, HE.out], by rw [HG.out]; exact below_setCells (by omega) _ _ _ _ HB1.out⟩
  · have hb1s := hb1.size
    rw [hs0.out] at hb1 hb1s h1
    have HR1 : Hid (w1.heap[G + 1]? = some (.cells (row .u8 z20).toArray 31 (0, 0))) := (hb1.block _ (by omega)).trans HR0.out
    have HB1 : Hid (Below G w w1) := HB0.out.trans (hb1.mono (by omega))
    have HV : Hid (errE k n = 0) := hid (by rw [← HN.out]; exact he)
    have hfr : Hid (fr = sha (encZ k zs)) := hid (by rw [HE.out]; unfold idZ; rw [if_pos he])
    have HSU : Hid (Calls Tryz.prog 39 #[.slice (some ⟨g, 0, none⟩) (encZ k zs).length c1] w1 fun e w' => e = .returned (.agg (row .u8 (sha (encZ k zs))).toArray) ∧ Below w1.heap.size w1 w') :=
      ref_any (some ⟨g, 0, none⟩) c1 (encZ k zs) w1 (by
        have := encZ_len k zs hl'.out
        have := (fits_ok k _ he).2
        omega) (encZ_isB k zs hz) (fun _ => ⟨g, 0, rfl, h2, h3⟩)
    obtain ⟨L, HL⟩ : ∃ L, Hid (L = (encZ k zs).length) := ⟨_, rfl⟩
    rw [← HL.out, ← hfr.out] at HSU
    rw [← HL.out]
    clear hb1 he hc0 hc1 h3 h4
    go_wp2_with fail
    refine HSU.out.mono ?_
    rintro ev w2 ⟨rfl, hb2⟩
    have HR2 : Hid (w2.heap[G + 1]? = some (.cells (row .u8 z20).toArray 31 (0, 0))) := (hb2.block _ (by omega)).trans HR1.out
    have HB2 : Hid (Below G w w2) := HB1.out.trans (hb2.mono (by omega))
    have T1 : Hid (w2.there (G + 1) 0 (row .u8 fr).toArray.size) := hid (by rw [row_size, hfl]; exact there_row HR2.out rfl)
    have T4 : Hid (w2.there (G + 1) 0 (row .u8 fr).length) := hid (by rw [row_len, hfl]; exact there_row HR2.out rfl)
    clear hb2
    go_wp2_with (refine wpList_store_mid rfl 31 _ _ rfl (G + 1) 0 (row .u8 fr).toArray rfl rfl T1.out T2.out T3.out ?_)
    exact bodyPost_ret (v := .tuple #[.agg (row .u8 fr).toArray, .int .i64 0]) (results_mid2 Tryz.results15 _ _ (G + 1) _ _ rfl (World.rangeAt_setCells_same w2 (G + 1) 0 _ T4.out) Tryz.underlying31 rfl hi25) rfl ⟨by rw [HV.out, HE.out], by rw [HG.out]; exact below_setCells (by omega) _ _ _ _ HB2.out⟩
set_option maxRecDepth 20000 in
theorem theirs_any (k : Int) (a : Option Addr) (n cap : Nat) (w : World) : Calls Tryz.prog 13 #[.agg #[.int .i64 k, .slice a n cap]] w fun e w' => e = .returned (.agg #[.int .i64 k, .slice a n cap]) ∧ Below w.heap.size w w' := by
  have HB : Hid (∀ o1 o2, Below w.heap.size w ((w.alloc o1).alloc o2)) := fun o1 o2 => ((Below.refl _ w).alloc (Nat.le_refl _) _).alloc (by simp) _
  go_enter Tryz.func13, Tryz.ntmps13
  go_wp2
  have hr : World.rangeAt ((w.alloc (.cells #[.int .i64 k, .slice a n cap] 25)).alloc (.cells #[.int .i64 k, .slice a n cap] 39)) (w.heap.size + 1) 0 [.int .i64 k, .slice a n cap] := by
    have := heap_alloc_new (w.alloc (.cells #[.int .i64 k, .slice a n cap] 25)) (.cells #[.int .i64 k, .slice a n cap] 39)
    simp only [World.size_alloc] at this
    exact range_row this
  exact bodyPost_ret (v := .agg #[.int .i64 k, .slice a n cap]) (results_mid Tryz.results13 _ _ (w.heap.size + 1) _ _ rfl hr Tryz.underlying39 rfl Tryz.size39) rfl ⟨rfl, HB.out _ _⟩
end Go.Proofs.YtenbdeljblmbhaaGreatDoor
/- The law 'ObjectHeaders': what its walk wants. -/
namespace Go.Proofs.YtenbdeljblmbhaaGreatDoor
open Go.RowKit
set_option linter.unusedVariables false
set_option linter.unusedSimpArgs false
/-- An object's bytes with their header; none, where it has none. -/
def encX (k : Int) (zs : List Int) : List Int := if errE k zs.length = 0 then encZ k zs else []
theorem encX_len (k : Int) (zs : List Int) (hl : zs.length ≤ 300000) : (encX k zs).length ≤ 200000 := by
  unfold encX
  split
  · rename_i he
    have := encZ_len k zs hl
    have := (fits_ok k _ he).2
    omega
  · simp
theorem encX_isB (k : Int) (zs : List Int) (h : IsB zs) : IsB (encX k zs) := by
  unfold encX
  split
  · exact encZ_isB k zs h
  · intro x hx; cases hx
/-- A slice made since. -/
structure New (w W : World) (a : Option Addr) (c : Nat) (l : List Int) : Prop where
  sl : Sl W a c l
  ge : ∀ b off, a = some ⟨b, off, none⟩ → w.heap.size ≤ b
theorem enc_x (k : Int) (a : Option Addr) (cap : Nat) (zs : List Int) (w : World) (ht : Tab w) (hl : zs.length ≤ 300000) (hS : Sl w a cap zs) :
    Calls Tryz.prog 9 #[.agg #[.int .i64 k, .slice a zs.length cap]] w fun e w' => ∃ ax cx, e = .returned (.tuple #[.slice ax (encX k zs).length cx, errV (errE k zs.length)]) ∧ New w w' ax cx (encX k zs) ∧ Below w.heap.size w w' := by
  refine (encode_any k a cap zs w ht hl hS).mono ?_
  rintro e w' ⟨hb, ⟨he, rfl⟩ | ⟨he, g, c1, rfl, h1, h2, h3, h4⟩⟩
  · refine ⟨none, 0, ?_, ⟨?_, fun b off e => by cases e⟩, hb⟩
    · unfold encX errV; rw [if_neg he, if_neg he]; rfl
    · unfold encX; rw [if_neg he]; exact ⟨Nat.le_refl _, (fun h => by cases h), fun _ => rfl⟩
  · refine ⟨some ⟨g, 0, none⟩, c1, ?_, ⟨?_, fun b off e => by cases e; exact h1⟩, hb⟩
    · unfold encX errV; rw [if_pos he, if_pos he]
    · unfold encX; rw [if_pos he]; exact ⟨h4, fun _ => ⟨g, 0, rfl, h2, h3⟩, fun e => by cases e⟩
theorem ref_x (k : Int) (a : Option Addr) (cap : Nat) (zs : List Int) (w : World) (hl : zs.length ≤ 300000) (hS : Sl w a cap zs) :
    Calls Tryz.prog 14 #[.agg #[.int .i64 k, .slice a zs.length cap]] w fun e w' => ∃ ax cx, e = .returned (.tuple #[.slice ax (encX k zs).length cx, .int .i64 (errE k zs.length)]) ∧ New w w' ax cx (encX k zs) ∧ Below w.heap.size w w' := by
  refine (refEncode_any k a cap zs w hl hS).mono ?_
  rintro e w' ⟨hb, ⟨he, rfl⟩ | ⟨he, g, c1, rfl, h1, h2, h3, h4⟩⟩
  · refine ⟨none, 0, ?_, ⟨?_, fun b off e => by cases e⟩, hb⟩
    · unfold encX; rw [if_neg he]; rfl
    · unfold encX; rw [if_neg he]; exact ⟨Nat.le_refl _, (fun h => by cases h), fun _ => rfl⟩
  · refine ⟨some ⟨g, 0, none⟩, c1, ?_, ⟨?_, fun b off e => by cases e; exact h1⟩, hb⟩
    · unfold encX; rw [if_pos he, he]
    · unfold encX; rw [if_pos he]; exact ⟨h4, fun _ => ⟨g, 0, rfl, h2, h3⟩, fun e => by cases e⟩
theorem tell_any (er : Int) (w : World) (hw : Lw w) : Calls Tryz.prog 11 #[errV er] w fun e w' => e = .returned (.int .i64 er) ∧ Below w.heap.size w w' := by
  unfold errV
  by_cases h : er = 0
  · rw [if_pos h, h]; exact tell_nil w
  · rw [if_neg h]; exact tell_errno er w hw.hand
theorem New.step {w W W' : World} {a : Option Addr} {c : Nat} {l : List Int} {r : Nat} (h : New w W a c l) (hg : W.grownBy W' (some r)) (hr : r < w.heap.size) : New w W' a c l :=
  ⟨h.sl.grown hg (fun b off e e2 => by cases e2; have := h.ge _ _ e; omega), h.ge⟩
/-- What the law's walk keeps: the object in its box; what is as it was. -/
structure Fx (w : World) (k : Int) (a : Option Addr) (n cap : Nat) (W : World) : Prop where
  below : Below w.heap.size w W
  c0 : W.cell? ⟨w.heap.size, 0, none⟩ = some (.int .i64 k)
  c1 : W.cell? ⟨w.heap.size, 1, none⟩ = some (.slice a n cap)
  lt : w.heap.size < W.heap.size
theorem Fx.step {w W W' : World} {k : Int} {a : Option Addr} {n cap r : Nat} (h : Fx w k a n cap W) (hg : W.grownBy W' (some r)) (hr : w.heap.size < r) : Fx w k a n cap W' :=
  ⟨h.below.grown hg (Nat.le_of_lt h.lt) (fun q hq => by cases hq; omega), (World.cell?_of_block (a := ⟨w.heap.size, 0, none⟩) (hg.block _ h.lt (by simp; omega))).trans h.c0,
    (World.cell?_of_block (a := ⟨w.heap.size, 1, none⟩) (hg.block _ h.lt (by simp; omega))).trans h.c1, Nat.lt_of_lt_of_le h.lt hg.size⟩
theorem Fx.on {w W W' : World} {k : Int} {a : Option Addr} {n cap : Nat} (h : Fx w k a n cap W) (hb : Below W.heap.size W W') : Fx w k a n cap W' := h.step (r := w.heap.size + 1) (grown_of_below hb _) (by omega)
theorem range_step {W W' : World} {g r : Nat} {cs : List Value} (h : W.rangeAt g 0 cs) (hg : W.grownBy W' (some r)) (hlt : g < W.heap.size) (hne : g ≠ r) : W'.rangeAt g 0 cs := fun j v hv =>
  (World.cell?_of_block (a := ⟨g, 0 + j, none⟩) (hg.block g hlt (by simp; exact hne))).trans (h j v hv)
set_option maxHeartbeats 400000 in
theorem walkH_long (k : Int) (a a' : Option Addr) (len len' cap cap' : Nat) (w : World) (h : 300000 < len + len') (hm : len ≤ 200000000000000) (hm' : len' ≤ 200000000000000) :
    Calls Tryz.prog 3 #[.agg #[.int .i64 k, .slice a len cap], .slice a' len' cap'] w fun e w' => e = .returned (.bool true) ∧ Below w.heap.size w w' := by
  have h1 : (300000 : Int) < len + len' := by omega
  have HB : Hid (∀ o, Below w.heap.size w (w.alloc o)) := fun o => (Below.refl _ w).alloc (Nat.le_refl _) _
  go_enter Tryz.func3, Tryz.ntmps3
  go_wp2
  go_ret
  exact ⟨rfl, HB.out _⟩
end Go.Proofs.YtenbdeljblmbhaaGreatDoor
