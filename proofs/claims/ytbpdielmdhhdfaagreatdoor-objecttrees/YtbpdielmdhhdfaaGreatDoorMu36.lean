import Derived.Test.YtbpdielmdhhdfaaGreatDoorMu35
import Derived.Test.YtbpdielmdhhdfaaGreatDoorMu28
import Derived.Test.YtbpdielmdhhdfaaGreatDoorMu06
import Derived.Test.YtbpdielmdhhdfaaGreatDoorMu17
/- The law 'ObjectHeaders': what its walk wants. -/
namespace Go.Proofs.YtbpdielmdhhdfaaGreatDoor
open Go.RowKit
set_option linter.unusedVariables false
set_option linter.unusedSimpArgs false
/-- An object's bytes with their header; none, where it has none. -/
def encX (k : Int) (zs : List Int) : List Int := if errE k zs.length = 0 then encZ k zs else []
theorem encX_len (k : Int) (zs : List Int) (hl : zs.length ≤ 300000) : (encX k zs).length ≤ 200000 := by
  unfold encX
  split
  · rename_i he
    have := encZ_len k zs hl
    have := (fits_ok k _ he).2
    omega
  · simp
theorem encX_isB (k : Int) (zs : List Int) (h : IsB zs) : IsB (encX k zs) := by
  unfold encX
  split
  · exact encZ_isB k zs h
  · intro x hx; cases hx
/-- A slice made since. -/
structure New (w W : World) (a : Option Addr) (c : Nat) (l : List Int) : Prop where
  sl : Sl W a c l
  ge : ∀ b off, a = some ⟨b, off, none⟩ → w.heap.size ≤ b
theorem enc_x (k : Int) (a : Option Addr) (cap : Nat) (zs : List Int) (w : World) (ht : Tab w) (hl : zs.length ≤ 300000) (hS : Sl w a cap zs) :
    Calls Tryz.prog 9 #[.agg #[.int .i64 k, .slice a zs.length cap]] w fun e w' => ∃ ax cx, e = .returned (.tuple #[.slice ax (encX k zs).length cx, errV (errE k zs.length)]) ∧ New w w' ax cx (encX k zs) ∧ Below w.heap.size w w' := by
  refine (encode_any k a cap zs w ht hl hS).mono ?_
  rintro e w' ⟨hb, ⟨he, rfl⟩ | ⟨he, g, c1, rfl, h1, h2, h3, h4⟩⟩
  · refine ⟨none, 0, ?_, ⟨?_, fun b off e => by cases e⟩, hb⟩
    · unfold encX errV; rw [if_neg he, if_neg he]; rfl
    · unfold encX; rw [if_neg he]; exact ⟨Nat.le_refl _, (fun h => by cases h), fun _ => rfl⟩
  · refine ⟨some ⟨g, 0, none⟩, c1, ?_, ⟨?_, fun b off e => by cases e; exact h1⟩, hb⟩
    · unfold encX errV; rw [if_pos he, if_pos he]
    · unfold encX; rw [if_pos he]; exact ⟨h4, fun _ => ⟨g, 0, rfl, h2, h3⟩, fun e => by cases e⟩
theorem ref_x (k : Int) (a : Option Addr) (cap : Nat) (zs : List Int) (w : World) (hl : zs.length ≤ 300000) (hS : Sl w a cap zs) :
    Calls Tryz.prog 14 #[.agg #[.int .i64 k, .slice a zs.length cap]] w fun e w' => ∃ ax cx, e = .returned (.tuple #[.slice ax (encX k zs).length cx, .int .i64 (errE k zs.length)]) ∧ New w w' ax cx (encX k zs) ∧ Below w.heap.size w w' := by
  refine (refEncode_any k a cap zs w hl hS).mono ?_
  rintro e w' ⟨hb, ⟨he, rfl⟩ | ⟨he, g, c1, rfl, h1, h2, h3, h4⟩⟩
  · refine ⟨none, 0, ?_, ⟨?_, fun b off e => by cases e⟩, hb⟩
    · unfold encX; rw [if_neg he]; rfl
    · unfold encX; rw [if_neg he]; exact ⟨Nat.le_refl _, (fun h => by cases h), fun _ => rfl⟩
  · refine ⟨some ⟨g, 0, none⟩, c1, ?_, ⟨?_, fun b off e => by cases e; exact h1⟩, hb⟩
    · unfold encX; rw [if_pos he, he]
    · unfold encX; rw [if_pos he]; exact ⟨h4, fun _ => ⟨g, 0, rfl, h2, h3⟩, fun e => by cases e⟩
theorem tell_any (er : Int) (w : World) (hw : Lw w) : Calls Tryz.prog 11 #[errV er] w fun e w' => e = .returned (.int .i64 er) ∧ Below w.heap.size w w' := by
  unfold errV
  by_cases h : er = 0
  · rw [if_pos h, h]; exact tell_nil w
  · rw [if_neg h]; exact tell_errno er w hw.hand
theorem New.step {w W W' : World} {a : Option Addr} {c : Nat} {l : List Int} {r : Nat} (h : New w W a c l) (hg : W.grownBy W' (some r)) (hr : r < w.heap.size) : New w W' a c l :=
  ⟨h.sl.grown hg (fun b off e e2 => by cases e2; have := h.ge _ _ e; omega), h.ge⟩
/-- What the law's walk keeps: the object in its box; what is as it was. -/
structure Fx (w : World) (k : Int) (a : Option Addr) (n cap : Nat) (W : World) : Prop where
  below : Below w.heap.size w W
  c0 : W.cell? ⟨w.heap.size, 0, none⟩ = some (.int .i64 k)
  c1 : W.cell? ⟨w.heap.size, 1, none⟩ = some (.slice a n cap)
  lt : w.heap.size < W.heap.size
theorem Fx.step {w W W' : World} {k : Int} {a : Option Addr} {n cap r : Nat} (h : Fx w k a n cap W) (hg : W.grownBy W' (some r)) (hr : w.heap.size < r) : Fx w k a n cap W' :=
  ⟨h.below.grown hg (Nat.le_of_lt h.lt) (fun q hq => by cases hq; omega), (World.cell?_of_block (a := ⟨w.heap.size, 0, none⟩) (hg.block _ h.lt (by simp; omega))).trans h.c0,
    (World.cell?_of_block (a := ⟨w.heap.size, 1, none⟩) (hg.block _ h.lt (by simp; omega))).trans h.c1, Nat.lt_of_lt_of_le h.lt hg.size⟩
theorem Fx.on {w W W' : World} {k : Int} {a : Option Addr} {n cap : Nat} (h : Fx w k a n cap W) (hb : Below W.heap.size W W') : Fx w k a n cap W' := h.step (r := w.heap.size + 1) (grown_of_below hb _) (by omega)
theorem range_step {W W' : World} {g r : Nat} {cs : List Value} (h : W.rangeAt g 0 cs) (hg : W.grownBy W' (some r)) (hlt : g < W.heap.size) (hne : g ≠ r) : W'.rangeAt g 0 cs := fun j v hv =>
  (World.cell?_of_block (a := ⟨g, 0 + j, none⟩) (hg.block g hlt (by simp; exact hne))).trans (h j v hv)
set_option maxHeartbeats 400000 in
theorem walkH_long (k : Int) (a a' : Option Addr) (len len' cap cap' : Nat) (w : World) (h : 300000 < len + len') (hm : len ≤ 200000000000000) (hm' : len' ≤ 200000000000000) :
    Calls Tryz.prog 3 #[.agg #[.int .i64 k, .slice a len cap], .slice a' len' cap'] w fun e w' => e = .returned (.bool true) ∧ Below w.heap.size w w' := by
  have h1 : (300000 : Int) < len + len' := by omega
  have HB : Hid (∀ o, Below w.heap.size w (w.alloc o)) := fun o => (Below.refl _ w).alloc (Nat.le_refl _) _
  go_enter Tryz.func3, Tryz.ntmps3
  go_wp2
  go_ret
  exact ⟨rfl, HB.out _⟩
end Go.Proofs.YtbpdielmdhhdfaaGreatDoor
/- The document's side of chapter 3: a tag, read. -/
namespace Go.Proofs.YtbpdielmdhhdfaaGreatDoor
open Go.RowKit
set_option linter.unusedVariables false
set_option linter.unusedSimpArgs false
/-- What the last region reads. -/
structure RS1 (G : Nat) (TV : List Value) (W : World) : Prop where
  rg : W.rangeAt (G + 1) 0 TV
structure RS20 (G : Nat) (TV : List Value) (v17 v0 : Value) (X S : ByteArray) (W : World) : Prop where
  rg : W.rangeAt (G + 1) 0 TV
  cx : (convert 23 9 v17).run Tryz.prog W = .ok (.string X) W
  ca : (convert 23 9 v0).run Tryz.prog W = .ok (.string S) W
set_option maxRecDepth 20000 in
set_option maxHeartbeats 20000000 in
theorem readTagR_any (a : Option Addr) (cap : Nat) (zs : List Int) (hl : zs.length ≤ 200000) (w : World) (hS : Sl w a cap zs) :
    Calls Tryz.prog 68 #[.slice a zs.length cap] w fun e w' => Below w.heap.size w w' ∧ PostRT (Lib.bytesOf zs) e := by
  obtain ⟨ZV, HZ⟩ : ∃ l : List Value, Hid (l = tgV (tg0 z20)) := ⟨_, rfl⟩
  have hz75 : ∀ w : World, (zeroValue 75).run Tryz.prog w = .ok (.agg ZV.toArray) w := fun w => by rw [HZ.out]; exact zero75 w
  obtain ⟨zr, HZR⟩ : ∃ zr : Array Value, Hid (zr = (row .u8 z20).toArray) := ⟨_, rfl⟩
  have hz31 := zero31
  rw [← HZR.out] at hz31
  have HZL : Hid (ZV.length = 27) := hid (by rw [HZ.out]; exact tgV_len _ rfl)
  have HRL : Hid (zr.size = 20) := hid (by rw [HZR.out]; rfl)
  have hi75z : (Tryz.prog.info? 75).map (·.size) = some ZV.length := by rw [HZL.out]; exact Tryz.size75
  have FI : Hid ((Tryz.prog.info? 75).map (·.size) = some ZV.toArray.size) := hid (by rw [List.size_toArray]; exact hi75z)
  have FO : Hid (ZV.toArray.all (·.oneCell') = true) := hid (by rw [HZ.out]; exact all_oneCell_toArray (tgV_one _))
  obtain ⟨n, HN⟩ : ∃ n, Hid (zs.length = n) := ⟨_, rfl⟩
  obtain ⟨l, HL⟩ : ∃ l, Hid (Lib.bytesOf zs = l) := ⟨_, rfl⟩
  have HLL : Hid (l.length ≤ 200000) := hid (by rw [← HL.out, Lib.bytesOf_length]; exact hl)
  obtain ⟨S, HSS⟩ : ∃ S : ByteArray, Hid (⟨l.toArray⟩ = S) := ⟨_, rfl⟩
  obtain ⟨G, HG⟩ : ∃ G, Hid (w.heap.size = G) := ⟨_, rfl⟩
  obtain ⟨w1, HW1⟩ : ∃ w1, Hid ((w.alloc (.cells ZV.toArray 75)).alloc (.cells ZV.toArray 75) = w1) := ⟨_, rfl⟩
  have TR1 : Hid (TR G ZV.toArray (tg0 z20) w w1) := hid (by
    rw [← HW1.out, ← HG.out]
    refine ⟨((Below.refl _ w).alloc (Nat.le_refl _) _).alloc (by simp) _, ?_, ?_⟩
    · rw [← HZ.out]
      have := heap_alloc_new (w.alloc (.cells ZV.toArray 75)) (.cells ZV.toArray 75)
      simpa using this
    · have h1 := heap_alloc_new w (.cells ZV.toArray 75)
      have h2 := ((Below.refl (w.alloc (.cells ZV.toArray 75)).heap.size (w.alloc (.cells ZV.toArray 75))).alloc (Nat.le_refl _) (.cells ZV.toArray 75)).block w.heap.size (by simp)
      exact h2.trans h1)
  have HSL : Hid (∀ W, Below G w W → Sl W a cap zs) := fun W hW => hS.below (by rw [HG.out]; exact hW)
  have HCA : Hid (∀ W, Below G w W → (convert 23 9 (.slice a n cap)).run Tryz.prog W = .ok (.string S) W) := fun W hW => by
    rw [← HSS.out, ← HL.out, ← HN.out]
    exact conv_str (HSL.out W hW)
  have HCV : Hid ((convert 23 9 (.slice a n cap)).run Tryz.prog ((w.alloc (.cells ZV.toArray 75)).alloc (.cells ZV.toArray 75)) = .ok (.string S) ((w.alloc (.cells ZV.toArray 75)).alloc (.cells ZV.toArray 75))) := hid (HCA.out _ (by rw [HW1.out]; exact TR1.out.below))
  have C1 : Hid (∀ W, Calls Tryz.prog 107 #[.string S, .string ⟨#[111, 98, 106, 101, 99, 116]⟩] W fun e w' => Below W.heap.size W w' ∧ PostLn l wObject e) := fun W => by
    rw [← HSS.out]
    exact lineR_any l wObject (Nat.le_trans HLL.out (by omega)) (by decide) W
  rw [HN.out, HL.out]
  clear hS
  have hcv := HCV.out
  go_enter Tryz.func68, Tryz.ntmps68
  go_wp2_with fail
  rw [HG.out, HW1.out]
  clear hcv HCV
  refine (C1.out w1).mono ?_
  rintro ev w2 ⟨hb, hp⟩
  obtain ⟨o1, r1, b1, rfl, hpl⟩ := hp.form
  have PL1 : Hid (PL l wObject o1 r1 b1) := hpl
  have TR2 : Hid (TR G ZV.toArray (tg0 z20) w w2) := TR1.out.grow hb
  clear hp hpl hb
  obtain ⟨O1, HO1⟩ : ∃ S : ByteArray, Hid (⟨o1.toArray⟩ = S) := ⟨_, rfl⟩
  obtain ⟨R1, HR1⟩ : ∃ S : ByteArray, Hid (⟨r1.toArray⟩ = S) := ⟨_, rfl⟩
  rw [HO1.out, HR1.out]
  have LR1 : Hid (r1.length ≤ 200000) := hid (Nat.le_trans PL1.out.2.2.1 HLL.out)
  have LO1 : Hid (o1.length ≤ 200000) := hid (Nat.le_trans PL1.out.2.2.2 HLL.out)
  have C2 : Hid (∀ W, Calls Tryz.prog 107 #[.string R1, .string ⟨#[116, 121, 112, 101]⟩] W fun e w' => Below W.heap.size W w' ∧ PostLn r1 wType e) := fun W => by
    rw [← HR1.out]
    exact lineR_any r1 wType (Nat.le_trans LR1.out (by omega)) (by decide) W
  go_wp2_with fail
  refine (C2.out w2).mono ?_
  rintro ev w3 ⟨hb, hp⟩
  obtain ⟨o2, r2, b2, rfl, hpl⟩ := hp.form
  have PL2 : Hid (PL r1 wType o2 r2 b2) := hpl
  have TR3 : Hid (TR G ZV.toArray (tg0 z20) w w3) := TR2.out.grow hb
  clear hp hpl hb
  obtain ⟨O2, HO2⟩ : ∃ S : ByteArray, Hid (⟨o2.toArray⟩ = S) := ⟨_, rfl⟩
  obtain ⟨R2, HR2⟩ : ∃ S : ByteArray, Hid (⟨r2.toArray⟩ = S) := ⟨_, rfl⟩
  rw [HO2.out, HR2.out]
  have LR2 : Hid (r2.length ≤ 200000) := hid (Nat.le_trans PL2.out.2.2.1 LR1.out)
  have LO2 : Hid (o2.length ≤ 200000) := hid (Nat.le_trans PL2.out.2.2.2 LR1.out)
  have C3 : Hid (∀ W, Calls Tryz.prog 107 #[.string R2, .string ⟨#[116, 97, 103]⟩] W fun e w' => Below W.heap.size W w' ∧ PostLn r2 wTag e) := fun W => by
    rw [← HR2.out]
    exact lineR_any r2 wTag (Nat.le_trans LR2.out (by omega)) (by decide) W
  go_wp2_with fail
  refine (C3.out w3).mono ?_
  rintro ev w4 ⟨hb, hp⟩
  obtain ⟨o3, r3, b3, rfl, hpl⟩ := hp.form
  have PL3 : Hid (PL r2 wTag o3 r3 b3) := hpl
  have TR4 : Hid (TR G ZV.toArray (tg0 z20) w w4) := TR3.out.grow hb
  clear hp hpl hb
  obtain ⟨O3, HO3⟩ : ∃ S : ByteArray, Hid (⟨o3.toArray⟩ = S) := ⟨_, rfl⟩
  obtain ⟨R3, HR3⟩ : ∃ S : ByteArray, Hid (⟨r3.toArray⟩ = S) := ⟨_, rfl⟩
  rw [HO3.out, HR3.out]
  have LR3 : Hid (r3.length ≤ 200000) := hid (Nat.le_trans PL3.out.2.2.1 LR2.out)
  have LO3 : Hid (o3.length ≤ 200000) := hid (Nat.le_trans PL3.out.2.2.2 LR2.out)
  have C4 : Hid (∀ W, Calls Tryz.prog 107 #[.string R3, .string ⟨#[116, 97, 103, 103, 101, 114]⟩] W fun e w' => Below W.heap.size W w' ∧ PostLn r3 wTagger e) := fun W => by
    rw [← HR3.out]
    exact lineR_any r3 wTagger (Nat.le_trans LR3.out (by omega)) (by decide) W
  go_wp2_with fail
  refine (C4.out w4).mono ?_
  rintro ev w5 ⟨hb, hp⟩
  obtain ⟨o4, r4, b4, rfl, hpl⟩ := hp.form
  have PL4 : Hid (PL r3 wTagger o4 r4 b4) := hpl
  have TR5 : Hid (TR G ZV.toArray (tg0 z20) w w5) := TR4.out.grow hb
  clear hp hpl hb
  obtain ⟨O4, HO4⟩ : ∃ S : ByteArray, Hid (⟨o4.toArray⟩ = S) := ⟨_, rfl⟩
  obtain ⟨R4, HR4⟩ : ∃ S : ByteArray, Hid (⟨r4.toArray⟩ = S) := ⟨_, rfl⟩
  rw [HO4.out, HR4.out]
  have LR4 : Hid (r4.length ≤ 200000) := hid (Nat.le_trans PL4.out.2.2.1 LR3.out)
  have LO4 : Hid (o4.length ≤ 200000) := hid (Nat.le_trans PL4.out.2.2.2 LR3.out)
  have C5 : Hid (∀ W, Calls Tryz.prog 108 #[.string O1] W fun e w' => Below W.heap.size W w' ∧ PostQR o1 e) := fun W => by
    rw [← HO1.out]
    exact parseR_short o1 W (Nat.le_trans LO1.out (by omega))
  go_wp2_with fail
  refine (C5.out w5).mono ?_
  rintro ev w6 ⟨hb, fr, gd, rfl, hpq⟩
  have HPQ : Hid (PQ o1 fr gd) := hpq
  have TR6 : Hid (TR G ZV.toArray (tg0 z20) w w6) := TR5.out.grow hb
  have HFL : Hid (fr.length = 20) := hpq.1
  have HFB : Hid (∀ n ∈ fr, 0 ≤ n ∧ n < 256) := hpq.2.1
  clear hb hpq C1 C2 C3 C4 C5
  have RD : Hid (∀ u : Tg, Wf u → okG u → tagB u = l → b1 = true ∧ b2 = true ∧ b3 = true ∧ b4 = true ∧ gd = true ∧ fr = u.id ∧ o2 = (kN u.kind).data.toList ∧ o3 = u.name ∧ o4 = perB u.per ∧ r4 = 10 :: u.msg) := fun u h1 h2 h3 => tag_read PL1.out PL2.out PL3.out PL4.out HPQ.out u h1 h2 h3
  obtain ⟨RF, HRF⟩ : ∃ R : List Value, Hid (row .u8 fr = R) := ⟨_, rfl⟩
  rw [HRF.out]
  have HFN : Hid (RF.length = 20) := hid (by rw [← HRF.out, row_len]; exact HFL.out)
  have hi31 : (Tryz.prog.info? 31).map (·.size) = some RF.length := by rw [HFN.out]; exact Tryz.size31
  have T1 : Hid ((w6.alloc (.cells zr 31)).there w6.heap.size 0 RF.toArray.size) := hid (there_off (heap_alloc_new w6 _) 0 (by rw [List.size_toArray, HFN.out, HRL.out]; omega))
  have T2 : Hid ((Tryz.prog.info? 31).map (·.size) = some RF.toArray.size) := hid (by rw [List.size_toArray]; exact hi31)
  have T3 : Hid (RF.toArray.all (·.oneCell') = true) := hid (by rw [← HRF.out]; exact all_oneCell_toArray (row_one _ _))
  obtain ⟨w7, HW7⟩ : ∃ w7, Hid ((w6.alloc (.cells zr 31)).setCells w6.heap.size 0 RF.toArray.toList = w7) := ⟨_, rfl⟩
  obtain ⟨H, HH⟩ : ∃ H, Hid (w6.heap.size = H) := ⟨_, rfl⟩
  have TR7 : Hid (TR G ZV.toArray (tg0 z20) w w7) := hid (by
    rw [← HW7.out]
    exact TR6.out.grow (below_setCells (Nat.le_refl _) _ _ _ _ ((Below.refl _ w6).alloc (Nat.le_refl _) _)))
  have HX7 : Hid (w7.rangeAt H 0 RF) := hid (by
    rw [← HW7.out, ← HH.out]
    exact World.rangeAt_setCells_same _ _ 0 _ (by have := T1.out; rwa [List.size_toArray] at this))
  have FL : Hid (w7.rangeAt (G + 1) 0 ZV) := hid (range_row (by rw [HZ.out]; exact TR7.out.tag))
  have FS : Hid (w7.there G 0 ZV.toArray.size) := hid (there_off TR7.out.res 0 (by omega))
  have FS' : Hid (w7.there G 0 ZV.length) := hid (there_off TR7.out.res 0 (by rw [List.size_toArray]; omega))
  have BAD : Hid ((∀ u : Tg, Wf u → okG u → tagB u ≠ l) → (Below w.heap.size w (w7.setCells G 0 ZV) ∧ PostRT l (.returned (.tuple #[.agg ZV.toArray, .bool false])))) := fun hno => by
    refine ⟨by rw [HG.out]; exact below_setCells (Nat.le_refl _) _ _ _ _ TR7.out.below, tg0 z20, false, by rw [HZ.out], ⟨rfl, ?_⟩, (fun h => by cases h), fun u h1 h2 h3 => absurd h3 (hno u h1 h2)⟩
    intro n hn
    have : n = 0 := by simpa [tg0, z20] using hn
    omega
  cases b1 with
  | false =>
    have HNO : Hid (∀ u : Tg, Wf u → okG u → tagB u ≠ l) := fun u h1 h2 h3 => by have h := (RD.out u h1 h2 h3).1; cases h
    go_wp2_with (first
      | (refine wpList_store_mid rfl 31 _ _ rfl w6.heap.size 0 RF.toArray rfl rfl T1.out T2.out T3.out ?_; rw [HW7.out, HH.out])
      | refine wpList_load_mid rfl 75 _ rfl (G + 1) 0 rfl ZV _ FL.out Tryz.underlying75 rfl hi75z ?_
      | refine wpList_store_mid rfl 75 _ _ rfl G 0 ZV.toArray rfl rfl FS.out FI.out FO.out ?_)
    refine bodyPost_ret (v := .tuple #[.agg ZV.toArray, .bool false]) (results_mid2 Tryz.results68 _ _ G ZV _ rfl (World.rangeAt_setCells_same _ G 0 _ FS'.out) Tryz.underlying75 rfl hi75z) rfl ?_
    exact BAD.out HNO.out
  | true =>
  cases b2 with
  | false =>
    have HNO : Hid (∀ u : Tg, Wf u → okG u → tagB u ≠ l) := fun u h1 h2 h3 => by have h := (RD.out u h1 h2 h3).2.1; cases h
    go_wp2_with (first
      | (refine wpList_store_mid rfl 31 _ _ rfl w6.heap.size 0 RF.toArray rfl rfl T1.out T2.out T3.out ?_; rw [HW7.out, HH.out])
      | refine wpList_load_mid rfl 75 _ rfl (G + 1) 0 rfl ZV _ FL.out Tryz.underlying75 rfl hi75z ?_
      | refine wpList_store_mid rfl 75 _ _ rfl G 0 ZV.toArray rfl rfl FS.out FI.out FO.out ?_)
    refine bodyPost_ret (v := .tuple #[.agg ZV.toArray, .bool false]) (results_mid2 Tryz.results68 _ _ G ZV _ rfl (World.rangeAt_setCells_same _ G 0 _ FS'.out) Tryz.underlying75 rfl hi75z) rfl ?_
    exact BAD.out HNO.out
  | true =>
  cases b3 with
  | false =>
    have HNO : Hid (∀ u : Tg, Wf u → okG u → tagB u ≠ l) := fun u h1 h2 h3 => by have h := (RD.out u h1 h2 h3).2.2.1; cases h
    go_wp2_with (first
      | (refine wpList_store_mid rfl 31 _ _ rfl w6.heap.size 0 RF.toArray rfl rfl T1.out T2.out T3.out ?_; rw [HW7.out, HH.out])
      | refine wpList_load_mid rfl 75 _ rfl (G + 1) 0 rfl ZV _ FL.out Tryz.underlying75 rfl hi75z ?_
      | refine wpList_store_mid rfl 75 _ _ rfl G 0 ZV.toArray rfl rfl FS.out FI.out FO.out ?_)
    refine bodyPost_ret (v := .tuple #[.agg ZV.toArray, .bool false]) (results_mid2 Tryz.results68 _ _ G ZV _ rfl (World.rangeAt_setCells_same _ G 0 _ FS'.out) Tryz.underlying75 rfl hi75z) rfl ?_
    exact BAD.out HNO.out
  | true =>
  cases b4 with
  | false =>
    have HNO : Hid (∀ u : Tg, Wf u → okG u → tagB u ≠ l) := fun u h1 h2 h3 => by have h := (RD.out u h1 h2 h3).2.2.2.1; cases h
    go_wp2_with (first
      | (refine wpList_store_mid rfl 31 _ _ rfl w6.heap.size 0 RF.toArray rfl rfl T1.out T2.out T3.out ?_; rw [HW7.out, HH.out])
      | refine wpList_load_mid rfl 75 _ rfl (G + 1) 0 rfl ZV _ FL.out Tryz.underlying75 rfl hi75z ?_
      | refine wpList_store_mid rfl 75 _ _ rfl G 0 ZV.toArray rfl rfl FS.out FI.out FO.out ?_)
    refine bodyPost_ret (v := .tuple #[.agg ZV.toArray, .bool false]) (results_mid2 Tryz.results68 _ _ G ZV _ rfl (World.rangeAt_setCells_same _ G 0 _ FS'.out) Tryz.underlying75 rfl hi75z) rfl ?_
    exact BAD.out HNO.out
  | true =>
  cases gd with
  | false =>
    have HNO : Hid (∀ u : Tg, Wf u → okG u → tagB u ≠ l) := fun u h1 h2 h3 => by have h := (RD.out u h1 h2 h3).2.2.2.2.1; cases h
    go_wp2_with (first
      | (refine wpList_store_mid rfl 31 _ _ rfl w6.heap.size 0 RF.toArray rfl rfl T1.out T2.out T3.out ?_; rw [HW7.out, HH.out])
      | refine wpList_load_mid rfl 75 _ rfl (G + 1) 0 rfl ZV _ FL.out Tryz.underlying75 rfl hi75z ?_
      | refine wpList_store_mid rfl 75 _ _ rfl G 0 ZV.toArray rfl rfl FS.out FI.out FO.out ?_)
    refine bodyPost_ret (v := .tuple #[.agg ZV.toArray, .bool false]) (results_mid2 Tryz.results68 _ _ G ZV _ rfl (World.rangeAt_setCells_same _ G 0 _ FS'.out) Tryz.underlying75 rfl hi75z) rfl ?_
    exact BAD.out HNO.out
  | true =>
  obtain ⟨k4, HK4⟩ : ∃ k, Hid (r4.length = k) := ⟨_, rfl⟩
  have hz4 : R4.size = k4 := by rw [← HR4.out, txt_len]; exact HK4.out
  by_cases h40 : k4 = 0
  · have HNO : Hid (∀ u : Tg, Wf u → okG u → tagB u ≠ l) := fun u h1 h2 h3 => by
      have h := (RD.out u h1 h2 h3).2.2.2.2.2.2.2.2.2
      have h5 := HK4.out
      rw [h, h40] at h5
      simp at h5
    subst h40
    go_wp2_with (first
      | (refine wpList_store_mid rfl 31 _ _ rfl w6.heap.size 0 RF.toArray rfl rfl T1.out T2.out T3.out ?_; rw [HW7.out, HH.out])
      | refine wpList_load_mid rfl 75 _ rfl (G + 1) 0 rfl ZV _ FL.out Tryz.underlying75 rfl hi75z ?_
      | refine wpList_store_mid rfl 75 _ _ rfl G 0 ZV.toArray rfl rfl FS.out FI.out FO.out ?_)
    refine bodyPost_ret (v := .tuple #[.agg ZV.toArray, .bool false]) (results_mid2 Tryz.results68 _ _ G ZV _ rfl (World.rangeAt_setCells_same _ G 0 _ FS'.out) Tryz.underlying75 rfl hi75z) rfl ?_
    exact BAD.out HNO.out
  have h4l : ¬ ((k4 : Int) < 1) := by omega
  obtain ⟨x, hx⟩ : ∃ x, r4[0]? = some x := ⟨_, List.getElem?_eq_getElem (by rw [HK4.out]; omega)⟩
  have HX : Hid (r4[0]? = some x) := hx
  clear hx
  obtain ⟨c, HC⟩ : ∃ c, Hid ((x.toNat : Int) = c) := ⟨_, rfl⟩
  have hix : ∀ W : World, (Instr.index 9 (.string R4) (.int .i64 0)).run Tryz.prog W = .ok (.int .u8 c) W := fun W => by rw [← HR4.out, ← HC.out]; exact index_txt r4 0 W x HX.out
  by_cases hc : c = 10
  rotate_left
  · have hcb : (c != 10) = true := by simpa using hc
    have HNO : Hid (∀ u : Tg, Wf u → okG u → tagB u ≠ l) := fun u h1 h2 h3 => by
      have h := (RD.out u h1 h2 h3).2.2.2.2.2.2.2.2.2
      have h5 := HX.out
      rw [h] at h5
      have h6 : (10 : UInt8) = x := by simpa using h5
      exact hc (HC.out.symm.trans (by rw [← h6]; rfl))
    go_wp2_with (first
      | (refine wpList_store_mid rfl 31 _ _ rfl w6.heap.size 0 RF.toArray rfl rfl T1.out T2.out T3.out ?_; rw [HW7.out, HH.out])
      | refine wpList_load_mid rfl 75 _ rfl (G + 1) 0 rfl ZV _ FL.out Tryz.underlying75 rfl hi75z ?_
      | refine wpList_store_mid rfl 75 _ _ rfl G 0 ZV.toArray rfl rfl FS.out FI.out FO.out ?_)
    refine bodyPost_ret (v := .tuple #[.agg ZV.toArray, .bool false]) (results_mid2 Tryz.results68 _ _ G ZV _ rfl (World.rangeAt_setCells_same _ G 0 _ FS'.out) Tryz.underlying75 rfl hi75z) rfl ?_
    exact BAD.out HNO.out
  obtain ⟨m, HM⟩ : ∃ m, Hid (r4.drop 1 = m) := ⟨_, rfl⟩
  obtain ⟨M, HMM⟩ : ∃ S : ByteArray, Hid (⟨m.toArray⟩ = S) := ⟨_, rfl⟩
  have hsl : ∀ W, (Instr.slice 9 (.string R4) (some (.int .i64 1)) none none).run Tryz.prog W = .ok (.string M) W := fun W => by
    rw [← HR4.out, ← HMM.out, ← HM.out]
    exact slice_from r4 1 (by rw [HK4.out]; omega) W
  clear HC HX
  subst hc
  have T8 : Hid (w7.there (G + 1) 0 RF.toArray.size) := hid (there_off TR7.out.tag 0 (by
    have h := tgV_len (tg0 z20) rfl
    rw [List.size_toArray, HFN.out]
    exact Nat.le_trans (show 0 + 20 ≤ 27 by omega) (Nat.le_of_eq h.symm)))
  go_wp2_with (first
    | (refine wpList_store_mid rfl 31 _ _ rfl w6.heap.size 0 RF.toArray rfl rfl T1.out T2.out T3.out ?_; rw [HW7.out, HH.out])
    | refine wpList_load_mid rfl 31 _ rfl H 0 rfl RF _ HX7.out Tryz.underlying31 rfl hi31 ?_
    | refine wpList_store_mid rfl 31 _ _ rfl (G + 1) 0 RF.toArray rfl rfl T8.out T2.out T3.out ?_
    | fail)
  have TR8 : Hid (TR G ZV.toArray (tg0 fr) w (w7.setCells (G + 1) 0 RF.toArray.toList)) := hid (by rw [← HRF.out]; exact TR7.out.id rfl fr HFL.out)
  generalize w7.setCells (G + 1) 0 RF.toArray.toList = w8 at TR8 ⊢
  clear FL FS FS' BAD T8 hix T1 hz31 hz75
  go_loopg [16] 4 (fun g v wr => ∃ j : Nat, 1 ≤ j ∧ j ≤ 5 ∧ v = .int .i64 j ∧ g = 5 - j ∧ ∃ k0 : Int, Hid (TR G ZV.toArray { tg0 fr with kind := k0 } w wr) ∧ Hid (∀ u : Int, ¬ (kN u).toList.isEmpty = true → o2 = (kN u).data.toList → u < j → k0 = u))
  case atStart => exact ⟨1, by omega, by omega, rfl, rfl, 0, TR8, fun u h1 h2 h3 => by have := kN_four u h1; omega⟩
  case round =>
    obtain ⟨j, hj1, hj5, rfl, hk, k0, TRJ, HKJ⟩ := hrel
    by_cases hj : j ≤ 4
    · have hji : (j : Int) ≤ 4 := by omega
      obtain ⟨Kj, HKN⟩ : ∃ S : ByteArray, Hid (kN j = S) := ⟨_, rfl⟩
      have CK : Hid (Calls Tryz.prog 37 #[.int .i64 j] wr fun e w' => e = .returned (.string Kj) ∧ w' = wr) := hid (by rw [← HKN.out]; exact name_any j wr)
      obtain ⟨eq, heq⟩ : ∃ b : Bool, (Kj.toList == O2.toList) = b := ⟨_, rfl⟩
      have HEQ : Hid (∀ u : Int, o2 = (kN u).data.toList → ((kN j).toList == (kN u).toList) = eq) := fun u hu => by
        rw [← heq, ← HKN.out, ← HO2.out, hu]
      obtain ⟨v20, c20, f20⟩ := TRJ.out.cell HFL.out 20 (by omega)
      go_wp2_with fail
      refine CK.out.mono ?_
      rintro ev wr' ⟨rfl, hwr⟩
      have hwr' := hwr.symm
      subst hwr'
      clear hwr CK
      cases eq with
      | true =>
        go_wp2
        go_roundg (5 - (j + 1))
        case measure => omega
        case rel =>
          refine ⟨j + 1, by omega, by omega, by go_num, rfl, j, TRJ.out.set 20 _ (set_kind { tg0 fr with kind := k0 } HFL.out j), fun u h1 h2 h3 => ?_⟩
          exact kN_inj4 u j h1 hj1 hj (HEQ.out u h2)
      | false =>
        go_wp2
        go_roundg (5 - (j + 1))
        case measure => omega
        case rel =>
          refine ⟨j + 1, by omega, by omega, by go_num, rfl, k0, TRJ, fun u h1 h2 h3 => ?_⟩
          by_cases hu : u = j
          · subst hu
            have h := HEQ.out _ h2
            simp at h
          · exact HKJ.out u h1 h2 (by omega)
    · have hji : ¬ (j : Int) ≤ 4 := by omega
      have HKE : Hid (∀ u : Int, ¬ (kN u).toList.isEmpty = true → o2 = (kN u).data.toList → k0 = u) := fun u h1 h2 => HKJ.out u h1 h2 (by have := kN_four u h1; omega)
      clear HKJ
      obtain ⟨v21, c21, f21⟩ := TRJ.out.cell HFL.out 21 (by omega)
      have CP : Hid (∀ W, Calls Tryz.prog 109 #[.string O4] W fun e w' => Below W.heap.size W w' ∧ PostRP o4 e) := fun W => by
        rw [← HO4.out]
        exact readPerson_any o4 (Nat.le_trans LO4.out (by omega)) W
      go_wp2_with fail
      have TR9 : Hid (TR G ZV.toArray { tg0 fr with kind := k0, name := o3 } w (wr.setCell ⟨G + 1, 21, none⟩ (.string O3))) := TRJ.out.set 21 _ (by rw [← HO3.out]; exact set_name { tg0 fr with kind := k0 } HFL.out _)
      clear c21 f21
      generalize wr.setCell ⟨G + 1, 21, none⟩ (.string O3) = w9 at TR9 ⊢
      refine (CP.out w9).mono ?_
      rintro ev w10 ⟨hb, p, bp, rfl, hp1, hp2⟩
      have HP1 : Hid (bp = true → okP p ∧ perB p = o4) := hp1
      have HP2 : Hid (∀ q, okP q → perB q = o4 → bp = true) := hp2
      have TRA : Hid (TR G ZV.toArray { tg0 fr with kind := k0, name := o3 } w w10) := TR9.out.grow hb
      clear hb hp1 hp2 CP
      have E1 : Hid (w10.there (G + 1) 22 (perV p).size) := there_off TRA.out.tag 22 (by
        have h := tgV_len ({ tg0 fr with kind := k0, name := o3 } : Tg) HFL.out
        exact Nat.le_trans (show 22 + 4 ≤ 27 by omega) (Nat.le_of_eq h.symm))
      have E2 : Hid ((Tryz.prog.info? 64).map (·.size) = some (perV p).size) := Tryz.size64
      have E3 : Hid ((perV p).all (·.oneCell') = true) := perV_one p
      obtain ⟨w11, HW11⟩ : ∃ w11, Hid (w10.setCells (G + 1) 22 (perV p).toList = w11) := ⟨_, rfl⟩
      have TRB : Hid (TR G ZV.toArray { tg0 fr with kind := k0, name := o3, per := p } w w11) := hid (by rw [← HW11.out]; exact TRA.out.per HFL.out p)
      obtain ⟨v26, c26, f26⟩ := TRB.out.cell HFL.out 26 (by omega)
      obtain ⟨T, HT⟩ : ∃ T : Tg, Hid (T = ⟨fr, k0, o3, p, m⟩) := ⟨_, rfl⟩
      have TRC : Hid (TR G ZV.toArray T w (w11.setCell ⟨G + 1, 26, none⟩ (.string M))) := hid (TRB.out.set 26 _ (by rw [← HMM.out, HT.out]; exact set_msg { tg0 fr with kind := k0, name := o3, per := p } HFL.out _))
      have HTL : Hid (T.id.length = 20) := hid (by rw [HT.out]; exact HFL.out)
      have HTB : Hid (∀ n ∈ T.id, 0 ≤ n ∧ n < 256) := hid (by rw [HT.out]; exact HFB.out)
      obtain ⟨TV, HTV⟩ : ∃ l : List Value, Hid (tgV T = l) := ⟨_, rfl⟩
      have HVL : Hid (TV.length = 27) := hid (by rw [← HTV.out]; exact tgV_len T HTL.out)
      have CT : Hid ((w11.setCell ⟨G + 1, 26, none⟩ (.string M)).rangeAt (G + 1) 0 TV) := hid (by rw [← HTV.out]; exact range_row TRC.out.tag)
      have hi75 : (Tryz.prog.info? 75).map (·.size) = some TV.length := by rw [HVL.out]; exact Tryz.size75
      have CI : Hid ((Tryz.prog.info? 75).map (·.size) = some TV.toArray.size) := hid (by rw [List.size_toArray]; exact hi75)
      have CO : Hid (TV.toArray.all (·.oneCell') = true) := hid (by rw [← HTV.out]; exact all_oneCell_toArray (tgV_one T))
      have CW : Hid (∀ W, Calls Tryz.prog 28 #[.agg TV.toArray] W (PostU T W)) := fun W => by rw [← HTV.out]; exact writeTagR_any T HTL.out HTB.out W
      go_wp2_with (first
        | (refine wpList_store_mid rfl 64 _ _ rfl (G + 1) 22 (perV p) rfl rfl E1.out E2.out E3.out ?_; rw [HW11.out])
        | refine wpList_load_mid rfl 75 _ rfl (G + 1) 0 rfl TV _ CT.out Tryz.underlying75 rfl hi75 ?_
        | fail)
      clear c26 f26 CT
      generalize w11.setCell ⟨G + 1, 26, none⟩ (.string M) = w12 at TRC ⊢
      refine (CW.out w12).mono ?_
      rintro ev w13 ⟨hb, hor⟩
      have TRD : Hid (TR G ZV.toArray T w w13) := TRC.out.grow hb
      clear hb CW
      have LD : Hid (w13.drew.rangeAt (G + 1) 0 TV) := hid (by rw [← HTV.out]; exact range_row (show w13.drew.heap[G + 1]? = _ from TRD.out.tag))
      have GS : Hid (w13.drew.there G 0 TV.toArray.size) := hid (there_off (show w13.drew.heap[G]? = _ from TRD.out.res) 0 (by rw [List.size_toArray, List.size_toArray, HZL.out, HVL.out]; omega))
      have GS' : Hid (w13.drew.there G 0 TV.length) := hid (there_off (show w13.drew.heap[G]? = _ from TRD.out.res) 0 (by rw [List.size_toArray, HZL.out, HVL.out]; omega))
      have BD : Hid (Below G w w13.drew) := hid ⟨TRD.out.below.os, TRD.out.below.tape, TRD.out.below.output, TRD.out.below.size, TRD.out.below.block⟩
      have HWF : Hid (Wf T) := ⟨HTL.out, HTB.out⟩
      have HBE : Hid (Below w.heap.size w (w13.drew.setCells G 0 TV)) := hid (by rw [HG.out]; exact below_setCells (Nat.le_refl _) _ _ _ _ BD.out)
      have UQ : Hid (∀ u : Tg, Wf u → okG u → tagB u = l → bp = true ∧ okG T ∧ tagB T = l) := fun u h1 h2 h3 => by
        obtain ⟨_, _, _, _, _, q1, q2, q3, q4, q5⟩ := RD.out u h1 h2 h3
        have hb := HP2.out u.per h2.2.2.1 q4.symm
        obtain ⟨p1, p2⟩ := HP1.out hb
        have q6 : m = u.msg := by rw [← HM.out, q5]; rfl
        have q7 := HKE.out u.kind h2.1 q2
        rw [q4] at p2
        obtain ⟨u1, u2, u3, u4, u5⟩ := u
        simp only at q1 q3 q6 q7 p2
        subst q1
        subst q3
        subst q6
        subst q7
        refine ⟨hb, ?_, ?_⟩
        · rw [HT.out]; exact ⟨h2.1, h2.2.1, p1, h2.2.2.2⟩
        · rw [HT.out, ← h3]
          simp only [tagB, p2]
      have GW : Hid (w13.drew.grownBy (w13.drew.setCells G 0 TV) (some G)) := hid (by
        have hb := below_setCells (Nat.le_refl G) TV 0 w13.drew w13.drew (Below.refl G w13.drew)
        exact ⟨hb.os, hb.tape, hb.output, hb.size, fun k hk hne => heap_setCells_other G k (fun e => hne (by rw [e])) TV 0 _⟩)
      have RG2 : Hid ((w13.drew.setCells G 0 TV).rangeAt (G + 1) 0 TV) := hid (range_step LD.out GW.out (show G + 1 < w13.heap.size from lt_of_some TRD.out.tag) (by omega))
      cases bp with
      | false =>
        have hfm : ∃ sv er, ev = .returned (.tuple #[sv, .int .i64 er]) := by
          rcases hor with ⟨_, g, cp, rfl, _, _⟩ | ⟨_, rfl⟩
          · exact ⟨_, _, rfl⟩
          · exact ⟨_, _, rfl⟩
        obtain ⟨sv, er, rfl⟩ := hfm
        clear hor
        have HSD : Hid (RS1 G TV w13.drew) := ⟨LD.out⟩
        have HSE : Hid (RS1 G TV (w13.drew.setCells G 0 TV)) := ⟨RG2.out⟩
        have FIN : Hid (PostRT l (.returned (.tuple #[.agg TV.toArray, .bool false]))) := ⟨T, false, by rw [HTV.out], HWF.out, (fun h => by cases h), fun u h1 h2 h3 => by have h := (UQ.out u h1 h2 h3).1; cases h⟩
        go_wp2_with fail
        refine wp_region_held_drew (S := RS1 G TV) (by kernel_rfl) (by exact HSD.out) (fun hHeld => ?_)
        refine takeL (i := 0) (v := .agg TV.toArray) rfl (by kernel_rfl) (by kernel_rfl) (by kernel_rfl) (fun _ _ _ h => h) (yieldsIf_load_mid (by rfl) 75 _ rfl (G + 1) 0 (by rfl) TV _ (fun w' h => h.rg) Tryz.underlying75 rfl hi75) hHeld ?_
        try simp only [Act.put, List.setIfInBounds_toArray, List.set_cons_zero, List.set_cons_succ]
        refine takeL (i := 1) (v := ?_) rfl (by kernel_rfl) (by kernel_rfl) (by kernel_rfl) (fun _ _ _ h => h) (Or.inl ⟨by rfl, ?_⟩) hHeld ?_
        rotate_left
        · rintro w' ⟨rg⟩; go_simp; rfl
        try simp only [Act.put, List.setIfInBounds_toArray, List.set_cons_zero, List.set_cons_succ]
        refine takeL (i := 2) (v := ?_) rfl (by kernel_rfl) (by kernel_rfl) (by kernel_rfl) (fun _ _ _ h => h) (Or.inl ⟨by rfl, ?_⟩) hHeld ?_
        rotate_left
        · rintro w' ⟨rg⟩; go_simp; rfl
        try simp only [Act.put, List.setIfInBounds_toArray, List.set_cons_zero, List.set_cons_succ]
        refine takeL (i := 3) (v := undef) rfl (by kernel_rfl) (by kernel_rfl) (by kernel_rfl) (fun _ _ _ h => h) (Or.inr ⟨by rfl, rfl⟩) hHeld ?_
        try simp only [Act.put, List.setIfInBounds_toArray, List.set_cons_zero, List.set_cons_succ]
        refine takeL (i := 4) (v := undef) rfl (by kernel_rfl) (by kernel_rfl) (by kernel_rfl) (fun _ _ _ h => h) (Or.inr ⟨by rfl, rfl⟩) hHeld ?_
        try simp only [Act.put, List.setIfInBounds_toArray, List.set_cons_zero, List.set_cons_succ]
        refine takeL (i := 5) (v := ?_) rfl (by kernel_rfl) (by kernel_rfl) (by kernel_rfl) (fun _ _ _ h => h) (Or.inl ⟨by rfl, ?_⟩) hHeld ?_
        rotate_left
        · rintro w' ⟨rg⟩; go_simp; rfl
        try simp only [Act.put, List.setIfInBounds_toArray, List.set_cons_zero, List.set_cons_succ]
        refine takeL (i := 6) (v := ?_) rfl (by kernel_rfl) (by kernel_rfl) (by kernel_rfl) (fun _ _ _ h => h) (Or.inl ⟨by rfl, ?_⟩) hHeld ?_
        rotate_left
        · rintro w' ⟨rg⟩; go_simp; rfl
        try simp only [Act.put, List.setIfInBounds_toArray, List.set_cons_zero, List.set_cons_succ]
        refine takeL (i := 7) (v := undef) rfl (by kernel_rfl) (by kernel_rfl) (by kernel_rfl) (fun _ _ _ h => h) (Or.inr ⟨by rfl, rfl⟩) hHeld ?_
        try simp only [Act.put, List.setIfInBounds_toArray, List.set_cons_zero, List.set_cons_succ]
        refine takeL (i := 8) (v := undef) rfl (by kernel_rfl) (by kernel_rfl) (by kernel_rfl) (fun _ _ _ h => h) (Or.inr ⟨by rfl, rfl⟩) hHeld ?_
        try simp only [Act.put, List.setIfInBounds_toArray, List.set_cons_zero, List.set_cons_succ]
        refine takeL (i := 9) (v := undef) rfl (by kernel_rfl) (by kernel_rfl) (by kernel_rfl) (fun _ _ _ h => h) (Or.inr ⟨by rfl, rfl⟩) hHeld ?_
        try simp only [Act.put, List.setIfInBounds_toArray, List.set_cons_zero, List.set_cons_succ]
        refine takeL (i := 10) (v := undef) rfl (by kernel_rfl) (by kernel_rfl) (by kernel_rfl) (fun _ _ _ h => h) (Or.inr ⟨by rfl, rfl⟩) hHeld ?_
        try simp only [Act.put, List.setIfInBounds_toArray, List.set_cons_zero, List.set_cons_succ]
        refine takeL (i := 11) (v := undef) rfl (by kernel_rfl) (by kernel_rfl) (by kernel_rfl) (fun _ _ _ h => h) (Or.inr ⟨by rfl, rfl⟩) hHeld ?_
        try simp only [Act.put, List.setIfInBounds_toArray, List.set_cons_zero, List.set_cons_succ]
        refine takeL (i := 12) (v := ?_) rfl (by kernel_rfl) (by kernel_rfl) (by kernel_rfl) (fun _ _ _ h => h) (Or.inl ⟨by rfl, ?_⟩) hHeld ?_
        rotate_left
        · rintro w' ⟨rg⟩; go_simp; rfl
        try simp only [Act.put, List.setIfInBounds_toArray, List.set_cons_zero, List.set_cons_succ]
        refine wpAnyH_ready (rs := [13]) (by kernel_rfl) (by simp) ?_
        refine consL rfl (fun KK hKK => ?_) AllReadyH.nil
        refine step_store (by rfl) 75 _ _ rfl G 0 TV.toArray (by rfl) (by rfl) GS.out CI.out CO.out ?_
        refine hKK.out _ _ HSE.out (fun hHeld => ?_)
        clear hKK KK
        try simp only [Act.put, List.setIfInBounds_toArray, List.set_cons_zero, List.set_cons_succ]
        refine takeL (i := 14) (v := ?_) rfl (by kernel_rfl) (by kernel_rfl) (by kernel_rfl) (fun _ _ _ h => h) (Or.inl ⟨by rfl, ?_⟩) hHeld ?_
        rotate_left
        · rintro w' ⟨rg⟩; go_simp; rfl
        try simp only [Act.put, List.setIfInBounds_toArray, List.set_cons_zero, List.set_cons_succ]
        refine wpAnyH_done (by kernel_rfl) ?_ _
        go_wp2
        refine bodyPost_ret (v := .tuple #[.agg TV.toArray, .bool false]) (results_mid2 Tryz.results68 _ _ G TV _ rfl (World.rangeAt_setCells_same _ G 0 _ GS'.out) Tryz.underlying75 rfl hi75) rfl ?_
        exact ⟨HBE.out, FIN.out⟩
      | true =>
      rcases hor with ⟨hok, g, cp, rfl, hge, hmk⟩ | ⟨hno, rfl⟩
      · have HOK : Hid (okG T) := hok
        have hsl0 := hmk.sl.below (show Below w13.heap.size w13 w13.drew from ⟨rfl, rfl, rfl, Nat.le_refl _, fun _ _ => rfl⟩)
        have hcx := conv_str hsl0
        have hcy := conv_str (hsl0.grown GW.out (fun b off e e2 => by
          cases e
          have h1 : g = G := by simpa using e2
          have h2 := lt_of_some TRC.out.res
          omega))
        rw [nums_len, bytesOf_nums] at hcx hcy
        obtain ⟨tl, HTL2⟩ : ∃ k, Hid ((tagB T).length = k) := ⟨_, rfl⟩
        obtain ⟨X, HXX⟩ : ∃ S : ByteArray, Hid (⟨(tagB T).toArray⟩ = S) := ⟨_, rfl⟩
        rw [HTL2.out, HXX.out] at hcx hcy
        rw [HTL2.out]
        obtain ⟨eq, heq⟩ : ∃ b : Bool, (X.toList == S.toList) = b := ⟨_, rfl⟩
        have HEI : Hid (eq = true ↔ tagB T = l) := hid (by
          rw [← heq, ← HXX.out, ← HSS.out, Lib.toList_data, Lib.toList_data]
          simp)
        have FIN : Hid (PostRT l (.returned (.tuple #[.agg TV.toArray, .bool eq]))) := ⟨T, eq, by rw [HTV.out], HWF.out, fun h => ⟨HOK.out, HEI.out.1 h⟩, fun u h1 h2 h3 => HEI.out.2 (UQ.out u h1 h2 h3).2.2⟩
        have HSD : Hid (RS20 G TV (.slice (some ⟨g, 0, none⟩) tl cp) (.slice a n cap) X S w13.drew) := ⟨LD.out, hcx, HCA.out _ BD.out⟩
        have HSE : Hid (RS20 G TV (.slice (some ⟨g, 0, none⟩) tl cp) (.slice a n cap) X S (w13.drew.setCells G 0 TV)) := ⟨RG2.out, hcy, HCA.out _ (below_setCells (Nat.le_refl _) _ _ _ _ BD.out)⟩
        clear hok hge hmk HEI hcx hcy hsl0
        go_wp2_with fail
        refine wp_region_held_drew (S := RS20 G TV (.slice (some ⟨g, 0, none⟩) tl cp) (.slice a n cap) X S) (by kernel_rfl) (by exact HSD.out) (fun hHeld => ?_)
        refine takeL (i := 0) (v := .agg TV.toArray) rfl (by kernel_rfl) (by kernel_rfl) (by kernel_rfl) (fun _ _ _ h => h) (yieldsIf_load_mid (by rfl) 75 _ rfl (G + 1) 0 (by rfl) TV _ (fun w' h => h.rg) Tryz.underlying75 rfl hi75) hHeld ?_
        try simp only [Act.put, List.setIfInBounds_toArray, List.set_cons_zero, List.set_cons_succ]
        refine takeL (i := 1) (v := ?_) rfl (by kernel_rfl) (by kernel_rfl) (by kernel_rfl) (fun _ _ _ h => h) (Or.inl ⟨by rfl, ?_⟩) hHeld ?_
        rotate_left
        · rintro w' ⟨rg, cx, ca⟩; go_simp; rfl
        try simp only [Act.put, List.setIfInBounds_toArray, List.set_cons_zero, List.set_cons_succ]
        refine takeL (i := 2) (v := ?_) rfl (by kernel_rfl) (by kernel_rfl) (by kernel_rfl) (fun _ _ _ h => h) (Or.inl ⟨by rfl, ?_⟩) hHeld ?_
        rotate_left
        · rintro w' ⟨rg, cx, ca⟩; go_simp; rfl
        try simp only [Act.put, List.setIfInBounds_toArray, List.set_cons_zero, List.set_cons_succ]
        refine takeL (i := 3) (v := ?_) rfl (by kernel_rfl) (by kernel_rfl) (by kernel_rfl) (fun _ _ _ h => h) (Or.inl ⟨by rfl, ?_⟩) hHeld ?_
        rotate_left
        · rintro w' ⟨rg, cx, ca⟩; go_simp; rfl
        try simp only [Act.put, List.setIfInBounds_toArray, List.set_cons_zero, List.set_cons_succ]
        refine takeL (i := 4) (v := ?_) rfl (by kernel_rfl) (by kernel_rfl) (by kernel_rfl) (fun _ _ _ h => h) (Or.inl ⟨by rfl, ?_⟩) hHeld ?_
        rotate_left
        · rintro w' ⟨rg, cx, ca⟩; go_simp; rfl
        try simp only [Act.put, List.setIfInBounds_toArray, List.set_cons_zero, List.set_cons_succ]
        refine takeL (i := 5) (v := ?_) rfl (by kernel_rfl) (by kernel_rfl) (by kernel_rfl) (fun _ _ _ h => h) (Or.inl ⟨by rfl, ?_⟩) hHeld ?_
        rotate_left
        · rintro w' ⟨rg, cx, ca⟩; go_simp; rfl
        try simp only [Act.put, List.setIfInBounds_toArray, List.set_cons_zero, List.set_cons_succ]
        refine takeL (i := 6) (v := ?_) rfl (by kernel_rfl) (by kernel_rfl) (by kernel_rfl) (fun _ _ _ h => h) (Or.inl ⟨by rfl, ?_⟩) hHeld ?_
        rotate_left
        · rintro w' ⟨rg, cx, ca⟩; go_simp; rfl
        try simp only [Act.put, List.setIfInBounds_toArray, List.set_cons_zero, List.set_cons_succ]
        refine takeL (i := 7) (v := ?_) rfl (by kernel_rfl) (by kernel_rfl) (by kernel_rfl) (fun _ _ _ h => h) (Or.inl ⟨by rfl, ?_⟩) hHeld ?_
        rotate_left
        · rintro w' ⟨rg, cx, ca⟩; go_simp; rfl
        try simp only [Act.put, List.setIfInBounds_toArray, List.set_cons_zero, List.set_cons_succ]
        refine takeL (i := 8) (v := ?_) rfl (by kernel_rfl) (by kernel_rfl) (by kernel_rfl) (fun _ _ _ h => h) (Or.inl ⟨by rfl, ?_⟩) hHeld ?_
        rotate_left
        · rintro w' ⟨rg, cx, ca⟩; go_simp; rfl
        try simp only [Act.put, List.setIfInBounds_toArray, List.set_cons_zero, List.set_cons_succ]
        refine takeL (i := 9) (v := ?_) rfl (by kernel_rfl) (by kernel_rfl) (by kernel_rfl) (fun _ _ _ h => h) (Or.inl ⟨by rfl, ?_⟩) hHeld ?_
        rotate_left
        · rintro w' ⟨rg, cx, ca⟩; go_simp; rfl
        try simp only [Act.put, List.setIfInBounds_toArray, List.set_cons_zero, List.set_cons_succ]
        refine takeL (i := 10) (v := ?_) rfl (by kernel_rfl) (by kernel_rfl) (by kernel_rfl) (fun _ _ _ h => h) (Or.inl ⟨by rfl, ?_⟩) hHeld ?_
        rotate_left
        · rintro w' ⟨rg, cx, ca⟩; go_simp; rfl
        try simp only [Act.put, List.setIfInBounds_toArray, List.set_cons_zero, List.set_cons_succ]
        refine takeL (i := 11) (v := ?_) rfl (by kernel_rfl) (by kernel_rfl) (by kernel_rfl) (fun _ _ _ h => h) (Or.inl ⟨by rfl, ?_⟩) hHeld ?_
        rotate_left
        · rintro w' ⟨rg, cx, ca⟩; go_simp; rfl
        try simp only [Act.put, List.setIfInBounds_toArray, List.set_cons_zero, List.set_cons_succ]
        refine takeL (i := 12) (v := ?_) rfl (by kernel_rfl) (by kernel_rfl) (by kernel_rfl) (fun _ _ _ h => h) (Or.inl ⟨by rfl, ?_⟩) hHeld ?_
        rotate_left
        · rintro w' ⟨rg, cx, ca⟩; go_simp; rfl
        try simp only [Act.put, List.setIfInBounds_toArray, List.set_cons_zero, List.set_cons_succ]
        refine wpAnyH_ready (rs := [13]) (by kernel_rfl) (by simp) ?_
        refine consL rfl (fun KK hKK => ?_) AllReadyH.nil
        refine step_store (by rfl) 75 _ _ rfl G 0 TV.toArray (by rfl) (by rfl) GS.out CI.out CO.out ?_
        refine hKK.out _ _ HSE.out (fun hHeld => ?_)
        clear hKK KK
        try simp only [Act.put, List.setIfInBounds_toArray, List.set_cons_zero, List.set_cons_succ]
        refine takeL (i := 14) (v := ?_) rfl (by kernel_rfl) (by kernel_rfl) (by kernel_rfl) (fun _ _ _ h => h) (Or.inl ⟨by rfl, ?_⟩) hHeld ?_
        rotate_left
        · rintro w' ⟨rg, cx, ca⟩; go_simp; rfl
        try simp only [Act.put, List.setIfInBounds_toArray, List.set_cons_zero, List.set_cons_succ]
        refine wpAnyH_done (by kernel_rfl) ?_ _
        go_wp2
        refine bodyPost_ret (v := .tuple #[.agg TV.toArray, .bool eq]) (results_mid2 Tryz.results68 _ _ G TV _ rfl (World.rangeAt_setCells_same _ G 0 _ GS'.out) Tryz.underlying75 rfl hi75) rfl ?_
        exact ⟨HBE.out, FIN.out⟩
      · have HNO : Hid (¬ okG T) := hno
        have FIN : Hid (PostRT l (.returned (.tuple #[.agg TV.toArray, .bool false]))) := ⟨T, false, by rw [HTV.out], HWF.out, (fun h => by cases h), fun u h1 h2 h3 => absurd (UQ.out u h1 h2 h3).2.1 HNO.out⟩
        clear hno
        have HSD : Hid (RS1 G TV w13.drew) := ⟨LD.out⟩
        have HSE : Hid (RS1 G TV (w13.drew.setCells G 0 TV)) := ⟨RG2.out⟩
        go_wp2_with fail
        refine wp_region_held_drew (S := RS1 G TV) (by kernel_rfl) (by exact HSD.out) (fun hHeld => ?_)
        refine takeL (i := 0) (v := .agg TV.toArray) rfl (by kernel_rfl) (by kernel_rfl) (by kernel_rfl) (fun _ _ _ h => h) (yieldsIf_load_mid (by rfl) 75 _ rfl (G + 1) 0 (by rfl) TV _ (fun w' h => h.rg) Tryz.underlying75 rfl hi75) hHeld ?_
        try simp only [Act.put, List.setIfInBounds_toArray, List.set_cons_zero, List.set_cons_succ]
        refine takeL (i := 1) (v := ?_) rfl (by kernel_rfl) (by kernel_rfl) (by kernel_rfl) (fun _ _ _ h => h) (Or.inl ⟨by rfl, ?_⟩) hHeld ?_
        rotate_left
        · rintro w' ⟨rg⟩; go_simp; rfl
        try simp only [Act.put, List.setIfInBounds_toArray, List.set_cons_zero, List.set_cons_succ]
        refine takeL (i := 2) (v := ?_) rfl (by kernel_rfl) (by kernel_rfl) (by kernel_rfl) (fun _ _ _ h => h) (Or.inl ⟨by rfl, ?_⟩) hHeld ?_
        rotate_left
        · rintro w' ⟨rg⟩; go_simp; rfl
        try simp only [Act.put, List.setIfInBounds_toArray, List.set_cons_zero, List.set_cons_succ]
        refine takeL (i := 3) (v := ?_) rfl (by kernel_rfl) (by kernel_rfl) (by kernel_rfl) (fun _ _ _ h => h) (Or.inl ⟨by rfl, ?_⟩) hHeld ?_
        rotate_left
        · rintro w' ⟨rg⟩; go_simp; rfl
        try simp only [Act.put, List.setIfInBounds_toArray, List.set_cons_zero, List.set_cons_succ]
        refine takeL (i := 4) (v := ?_) rfl (by kernel_rfl) (by kernel_rfl) (by kernel_rfl) (fun _ _ _ h => h) (Or.inl ⟨by rfl, ?_⟩) hHeld ?_
        rotate_left
        · rintro w' ⟨rg⟩; go_simp; rfl
        try simp only [Act.put, List.setIfInBounds_toArray, List.set_cons_zero, List.set_cons_succ]
        refine takeL (i := 5) (v := ?_) rfl (by kernel_rfl) (by kernel_rfl) (by kernel_rfl) (fun _ _ _ h => h) (Or.inl ⟨by rfl, ?_⟩) hHeld ?_
        rotate_left
        · rintro w' ⟨rg⟩; go_simp; rfl
        try simp only [Act.put, List.setIfInBounds_toArray, List.set_cons_zero, List.set_cons_succ]
        refine takeL (i := 6) (v := ?_) rfl (by kernel_rfl) (by kernel_rfl) (by kernel_rfl) (fun _ _ _ h => h) (Or.inl ⟨by rfl, ?_⟩) hHeld ?_
        rotate_left
        · rintro w' ⟨rg⟩; go_simp; rfl
        try simp only [Act.put, List.setIfInBounds_toArray, List.set_cons_zero, List.set_cons_succ]
        refine takeL (i := 7) (v := undef) rfl (by kernel_rfl) (by kernel_rfl) (by kernel_rfl) (fun _ _ _ h => h) (Or.inr ⟨by rfl, rfl⟩) hHeld ?_
        try simp only [Act.put, List.setIfInBounds_toArray, List.set_cons_zero, List.set_cons_succ]
        refine takeL (i := 8) (v := undef) rfl (by kernel_rfl) (by kernel_rfl) (by kernel_rfl) (fun _ _ _ h => h) (Or.inr ⟨by rfl, rfl⟩) hHeld ?_
        try simp only [Act.put, List.setIfInBounds_toArray, List.set_cons_zero, List.set_cons_succ]
        refine takeL (i := 9) (v := undef) rfl (by kernel_rfl) (by kernel_rfl) (by kernel_rfl) (fun _ _ _ h => h) (Or.inr ⟨by rfl, rfl⟩) hHeld ?_
        try simp only [Act.put, List.setIfInBounds_toArray, List.set_cons_zero, List.set_cons_succ]
        refine takeL (i := 10) (v := undef) rfl (by kernel_rfl) (by kernel_rfl) (by kernel_rfl) (fun _ _ _ h => h) (Or.inr ⟨by rfl, rfl⟩) hHeld ?_
        try simp only [Act.put, List.setIfInBounds_toArray, List.set_cons_zero, List.set_cons_succ]
        refine takeL (i := 11) (v := undef) rfl (by kernel_rfl) (by kernel_rfl) (by kernel_rfl) (fun _ _ _ h => h) (Or.inr ⟨by rfl, rfl⟩) hHeld ?_
        try simp only [Act.put, List.setIfInBounds_toArray, List.set_cons_zero, List.set_cons_succ]
        refine takeL (i := 12) (v := ?_) rfl (by kernel_rfl) (by kernel_rfl) (by kernel_rfl) (fun _ _ _ h => h) (Or.inl ⟨by rfl, ?_⟩) hHeld ?_
        rotate_left
        · rintro w' ⟨rg⟩; go_simp; rfl
        try simp only [Act.put, List.setIfInBounds_toArray, List.set_cons_zero, List.set_cons_succ]
        refine wpAnyH_ready (rs := [13]) (by kernel_rfl) (by simp) ?_
        refine consL rfl (fun KK hKK => ?_) AllReadyH.nil
        refine step_store (by rfl) 75 _ _ rfl G 0 TV.toArray (by rfl) (by rfl) GS.out CI.out CO.out ?_
        refine hKK.out _ _ HSE.out (fun hHeld => ?_)
        clear hKK KK
        try simp only [Act.put, List.setIfInBounds_toArray, List.set_cons_zero, List.set_cons_succ]
        refine takeL (i := 14) (v := ?_) rfl (by kernel_rfl) (by kernel_rfl) (by kernel_rfl) (fun _ _ _ h => h) (Or.inl ⟨by rfl, ?_⟩) hHeld ?_
        rotate_left
        · rintro w' ⟨rg⟩; go_simp; rfl
        try simp only [Act.put, List.setIfInBounds_toArray, List.set_cons_zero, List.set_cons_succ]
        refine wpAnyH_done (by kernel_rfl) ?_ _
        go_wp2
        refine bodyPost_ret (v := .tuple #[.agg TV.toArray, .bool false]) (results_mid2 Tryz.results68 _ _ G TV _ rfl (World.rangeAt_setCells_same _ G 0 _ GS'.out) Tryz.underlying75 rfl hi75) rfl ?_
        exact ⟨HBE.out, FIN.out⟩
end Go.Proofs.YtbpdielmdhhdfaaGreatDoor
/- The law 'ObjectTags': what its walk wants. -/
namespace Go.Proofs.YtbpdielmdhhdfaaGreatDoor
open Go.RowKit
set_option linter.unusedVariables false
set_option linter.unusedSimpArgs false
theorem Tryz.results27 : Tryz.f27.results = #[.cell 2 64] := by kernel_rfl
theorem perV_size (p : Per) : (perV p).size = 4 := rfl
set_option maxRecDepth 20000 in
theorem person_any (p : Per) (w : World) : Calls Tryz.prog 27 #[.agg (perV p)] w fun e w' => e = .returned (.agg (perV p)) ∧ Below w.heap.size w w' := by
  obtain ⟨N, HN⟩ : ∃ S : ByteArray, Hid (⟨p.name.toArray⟩ = S) := ⟨_, rfl⟩
  obtain ⟨M, HM⟩ : ∃ S : ByteArray, Hid (⟨p.mail.toArray⟩ = S) := ⟨_, rfl⟩
  obtain ⟨t, HT⟩ : ∃ t, Hid (p.time = t) := ⟨_, rfl⟩
  obtain ⟨z, HZ⟩ : ∃ z, Hid (p.zone = z) := ⟨_, rfl⟩
  have HPV : Hid (perV p = #[.string N, .string M, .int .i64 t, .int .i64 z]) := hid (by unfold perV; rw [HN.out, HM.out, HT.out, HZ.out])
  have HB : Hid (∀ o1 o2, Below w.heap.size w ((w.alloc o1).alloc o2)) := fun o1 o2 => ((Below.refl _ w).alloc (Nat.le_refl _) _).alloc (by simp) _
  rw [HPV.out]
  go_enter Tryz.func27, Tryz.ntmps27
  go_wp2
  have hr : World.rangeAt ((w.alloc (.cells #[.string N, .string M, .int .i64 t, .int .i64 z] 58)).alloc (.cells #[.string N, .string M, .int .i64 t, .int .i64 z] 64)) (w.heap.size + 1) 0 [.string N, .string M, .int .i64 t, .int .i64 z] := by
    have := heap_alloc_new (w.alloc (.cells #[.string N, .string M, .int .i64 t, .int .i64 z] 58)) (.cells #[.string N, .string M, .int .i64 t, .int .i64 z] 64)
    simp only [World.size_alloc] at this
    exact range_row this
  exact bodyPost_ret (v := .agg #[.string N, .string M, .int .i64 t, .int .i64 z]) (results_mid Tryz.results27 _ _ (w.heap.size + 1) _ _ rfl hr Tryz.underlying64 rfl Tryz.size64) rfl ⟨rfl, HB.out _ _⟩
set_option maxRecDepth 20000 in
theorem samePerson_any (p : Per) (w : World) : Calls Tryz.prog 63 #[.agg (perV p), .agg (perV p)] w fun e w' => e = .returned (.bool true) ∧ Below w.heap.size w w' := by
  obtain ⟨N, HN⟩ : ∃ S : ByteArray, Hid (⟨p.name.toArray⟩ = S) := ⟨_, rfl⟩
  obtain ⟨M, HM⟩ : ∃ S : ByteArray, Hid (⟨p.mail.toArray⟩ = S) := ⟨_, rfl⟩
  obtain ⟨t, HT⟩ : ∃ t, Hid (p.time = t) := ⟨_, rfl⟩
  obtain ⟨z, HZ⟩ : ∃ z, Hid (p.zone = z) := ⟨_, rfl⟩
  have HPV : Hid (perV p = #[.string N, .string M, .int .i64 t, .int .i64 z]) := hid (by unfold perV; rw [HN.out, HM.out, HT.out, HZ.out])
  have HB : Hid (∀ o1 o2, Below w.heap.size w ((w.alloc o1).alloc o2)) := fun o1 o2 => ((Below.refl _ w).alloc (Nat.le_refl _) _).alloc (by simp) _
  rw [HPV.out]
  go_enter Tryz.func63, Tryz.ntmps63
  go_wp2
  go_ret
  exact ⟨rfl, HB.out _ _⟩
set_option maxRecDepth 20000 in
theorem built75 (t : Tg) (h : t.id.length = 20) : Tryz.prog.built 75 [(0, .agg (row .u8 t.id).toArray), (1, .int .i64 t.kind), (2, .string ⟨t.name.toArray⟩), (3, .agg (perV t.per)), (4, .string ⟨t.msg.toArray⟩)] = some (tgV t).toArray := by
  obtain ⟨a0, a1, a2, a3, a4, a5, a6, a7, a8, a9, a10, a11, a12, a13, a14, a15, a16, a17, a18, a19, e⟩ := list20 t.id h
  unfold tgV
  rw [e]
  kernel_rfl
/-- A tag in a block of its own. -/
structure Bx (H : Nat) (TV : List Value) (ty : TypeId) (W : World) : Prop where
  box : W.heap[H]? = some (.cells TV.toArray ty (0, 0))
theorem Bx.below {H : Nat} {TV : List Value} {ty : TypeId} {W W' : World} (h : Bx H TV ty W) (hb : Below W.heap.size W W') : Bx H TV ty W' := ⟨(hb.block _ (lt_of_some h.box)).trans h.box⟩
theorem Bx.grown {H : Nat} {TV : List Value} {ty : TypeId} {W W' : World} {r : Nat} (h : Bx H TV ty W) (hg : W.grownBy W' (some r)) (hne : H ≠ r) : Bx H TV ty W' := ⟨(hg.block _ (lt_of_some h.box) (by simp; exact hne)).trans h.box⟩
theorem Bx.lt {H : Nat} {TV : List Value} {ty : TypeId} {W : World} (h : Bx H TV ty W) : H < W.heap.size := lt_of_some h.box
/-- The cells of a tag's block. -/
theorem Bx.cells {H : Nat} {ty : TypeId} {W : World} {t : Tg} {TV : List Value} (h : Bx H TV ty W) (hv : tgV t = TV) (hl : t.id.length = 20) : BoxG H t W ∧ W.rangeAt H 22 (perV t.per).toList ∧ W.rangeAt H 0 TV := by
  subst hv
  have hr := range_row h.box
  have hlr : (row .u8 t.id).length = 20 := by rw [row_len]; exact hl
  have g : ∀ (i : Nat) (v : Value), (tgV t)[i]? = some v → W.cell? ⟨H, i, none⟩ = some v := fun i v hv => by
    have := hr i v hv
    rwa [Nat.zero_add] at this
  have g2 : ∀ (i : Nat) (v : Value), ([.int .i64 t.kind, .string ⟨t.name.toArray⟩, .string ⟨t.per.name.toArray⟩, .string ⟨t.per.mail.toArray⟩, .int .i64 t.per.time, .int .i64 t.per.zone, .string ⟨t.msg.toArray⟩] : List Value)[i]? = some v → W.cell? ⟨H, 20 + i, none⟩ = some v := fun i v hv => by
    apply g
    unfold tgV
    rw [List.getElem?_append_right (by omega), hlr, Nat.add_sub_cancel_left]
    exact hv
  refine ⟨⟨fun j v hv => ?_, g2 0 _ rfl, g2 1 _ rfl, g2 2 _ rfl, g2 3 _ rfl, g2 4 _ rfl, g2 5 _ rfl, g2 6 _ rfl⟩, ?_, hr⟩
  · refine hr j v ?_
    unfold tgV
    rw [List.getElem?_append_left (by obtain ⟨h1, _⟩ := List.getElem?_eq_some_iff.1 hv; exact h1)]
    exact hv
  · intro j v hv
    match j, hv with
    | 0, hv => exact (g2 2 _ rfl).trans hv
    | 1, hv => exact (g2 3 _ rfl).trans hv
    | 2, hv => exact (g2 4 _ rfl).trans hv
    | 3, hv => exact (g2 5 _ rfl).trans hv
    | j + 4, hv => simp [perV] at hv
theorem Sl.grown' {w w' : World} {a : Option Addr} {cap : Nat} {l : List Int} {r : Nat} (h : Sl w a cap l) (hg : w.grownBy w' (some r)) (hne : ∀ b off, a = some ⟨b, off, none⟩ → b ≠ r) : Sl w' a cap l :=
  h.grown hg (fun b off e e2 => hne b off e (by simpa using e2))
theorem tagB_len (t : Tg) (hl : t.id.length = 20) (h : okG t) : (tagB t).length ≤ 200000 := by
  have h1 := h.2.1.2.1
  have h2 := perB_len t.per h.2.2.1
  have h3 : t.msg.length ≤ 2000 := by
    have := h.2.2.2
    unfold isMsg at this
    rw [Bool.and_eq_true] at this
    exact of_decide_eq_true this.1
  have h4 : (kN t.kind).data.toList.length ≤ 10 := kN_len10 t.kind
  have h5 := hexB_len t.id
  simp only [tagB, ln2, List.length_append, List.length_cons, List.length_nil, h5, hl]
  have e1 : w_object.data.toList.length = 6 := rfl
  have e2 : w_type.data.toList.length = 4 := rfl
  have e3 : w_tag.data.toList.length = 3 := rfl
  have e4 : w_tagger.data.toList.length = 6 := rfl
  omega
end Go.Proofs.YtbpdielmdhhdfaaGreatDoor
