import Derived.Test.YtbpdielmdhhdfaaGreatDoorMt06
import Derived.Lib.OthersKept
import Derived.Lib.TrimUEq
import Derived.Lib.SpaceUEq
import Derived.Lib.QuoteLoop
import Derived.Test.YtbpdielmdhhdfaaGreatDoorMt01
/- strings.IndexAny and ContainsAny, of any text, with ASCII signs. -/
namespace Go.Proofs.YtbpdielmdhhdfaaGreatDoor
open Go.RowKit
set_option linter.unusedVariables false
set_option linter.unusedSimpArgs false
theorem byte_getD (s : ByteArray) (q : Nat) (h : q < s.size) : s.data.toList.getD q 0 = s[q]'h := by
  rw [List.getD_eq_getElem?_getD, Lib.data_getElem? s q h]
  rfl
/-- A step over what is no ASCII. -/
theorem high_step (s : ByteArray) (pos : Nat) (h : pos < s.size) (ha : 128 ≤ (s[pos]'h).toNat) :
    128 ≤ (Utf8.decode s pos).1 ∧ Utf8.valid ((Utf8.decode s pos).1 : Int) = true ∧ 1 ≤ (Utf8.decode s pos).2 ∧ pos + (Utf8.decode s pos).2 ≤ s.size ∧ ∀ q, pos ≤ q → q < pos + (Utf8.decode s pos).2 → 128 ≤ (s.data.toList.getD q 0).toNat := by
  obtain ⟨h1, h2⟩ := decode_high s pos h ha
  have hN := Lib.decode_N s pos
  have hsz := Lib.size_eq s
  have hb0 : 128 ≤ (s.data.toList.getD pos 0).toNat := by rw [byte_getD s pos h]; exact ha
  have hv := Lib.decodeN_valid (s.data.toList.length - pos) (s.data.toList.getD pos 0).toNat (s.data.toList.getD (pos + 1) 0).toNat (s.data.toList.getD (pos + 2) 0).toNat (s.data.toList.getD (pos + 3) 0).toNat (UInt8.toNat_lt _)
  have hw := Lib.decodeN_width_le (s.data.toList.length - pos) (s.data.toList.getD pos 0).toNat (s.data.toList.getD (pos + 1) 0).toNat (s.data.toList.getD (pos + 2) 0).toNat (s.data.toList.getD (pos + 3) 0).toNat (by omega)
  have hc := Lib.decodeN_conts (s.data.toList.length - pos) (s.data.toList.getD pos 0).toNat (s.data.toList.getD (pos + 1) 0).toNat (s.data.toList.getD (pos + 2) 0).toNat (s.data.toList.getD (pos + 3) 0).toNat
  rw [← hN] at hv hw hc
  obtain ⟨c1, c2, c3, c4⟩ := hc
  refine ⟨h1, ?_, h2, by omega, fun q hq1 hq2 => ?_⟩
  · unfold Utf8.valid
    simp
    omega
  · have e : q = pos ∨ q = pos + 1 ∨ q = pos + 2 ∨ q = pos + 3 := by omega
    rcases e with rfl | rfl | rfl | rfl
    · exact hb0
    · have := c1 (by omega); omega
    · have := c2 (by omega); omega
    · have := c3 (by omega); omega
/-- None of the signs ahead of i. -/
def No (s ch : ByteArray) (i : Nat) : Prop := ∀ q, q < i → s.data.toList.getD q 0 ∉ ch.data.toList
theorem Asc.mem {ch : ByteArray} (h : Asc ch) {x : UInt8} (hx : x ∈ ch.data.toList) : x.toNat < 128 := by
  obtain ⟨q, hq, rfl⟩ := List.getElem_of_mem hx
  exact h q (by rw [Lib.size_eq]; exact hq)
theorem iterAt_below {B : Nat} {w0 w : World} {k : Nat} {s : ByteArray} {p : Nat} (h : Below B w0 w) (hk : B ≤ k) : Below B w0 (w.iterAt k s p) :=
  ⟨h.os, h.tape, h.output, by simp [World.iterAt]; exact h.size, fun j hj => by
    show (w.heap.setIfInBounds k _)[j]? = _
    rw [Array.getElem?_setIfInBounds_ne (by omega)]
    exact h.block j hj⟩
theorem indexByte_low (l : List UInt8) (c : UInt8) : -1 ≤ Lib.indexByte l c := by
  induction l with
  | nil => simp [Lib.indexByte]
  | cons b l ih =>
    unfold Lib.indexByte
    split
    · decide
    · split
      · exact Int.le_refl _
      · omega
theorem indexByte_mem (l : List UInt8) (c : UInt8) : (0 ≤ Lib.indexByte l c) ↔ c ∈ l := by
  induction l with
  | nil => simp [Lib.indexByte]
  | cons b l ih =>
    unfold Lib.indexByte
    by_cases hb : b = c
    · subst hb; simp
    · have hbc : (b == c) = false := beq_eq_false_iff_ne.2 hb
      rw [hbc]
      simp only [Bool.false_eq_true, if_false, List.mem_cons, Ne.symm hb, false_or]
      rw [← ih]
      by_cases h1 : Lib.indexByte l c = -1
      · simp [h1]
      · have h2 : (Lib.indexByte l c == -1) = false := beq_eq_false_iff_ne.2 h1
        rw [h2]
        simp only [Bool.false_eq_true, if_false]
        have := indexByte_low l c
        omega
/-- Whether one of the signs is in the text. -/
def hasAny (s ch : ByteArray) : Prop := ∃ x ∈ s.data.toList, x ∈ ch.data.toList
theorem no_all {s ch : ByteArray} (h : No s ch s.size) : ¬ hasAny s ch := by
  rintro ⟨x, hx, hc⟩
  obtain ⟨q, hq, rfl⟩ := List.getElem_of_mem hx
  refine h q (by rw [Lib.size_eq]; exact hq) ?_
  rw [List.getD_eq_getElem?_getD, List.getElem?_eq_getElem hq]
  exact hc
set_option maxRecDepth 20000 in
set_option maxHeartbeats 1000000 in
theorem indexAny_short (s ch : ByteArray) (h2 : 2 ≤ ch.size) (h100 : ch.size ≤ 100) (hch : Asc ch) (h8 : s.size ≤ 8) (w : World) :
    Calls Tryz.prog 154 #[.string s, .string ch] w fun e w' => (∃ i : Int, e = .returned (.int .i64 i) ∧ (0 ≤ i ↔ hasAny s ch)) ∧ Below w.heap.size w w' := by
  have HCH : Hid (Asc ch) := hch
  clear hch
  have hemp : ch.toList.isEmpty = false := by
    rw [Lib.toList_data]
    cases h : ch.data.toList with
    | nil => have := Lib.size_eq ch; rw [h, List.length_nil] at this; omega
    | cons _ _ => rfl
  have hn1 : ((ch.size : Int) == 1) = false := beq_eq_false_iff_ne.2 (by omega)
  have hn1' : ¬ (ch.size : Int) = 1 := by omega
  have h8i : ¬ (8 : Int) < (s.size : Int) := by omega
  obtain ⟨G, HG⟩ : ∃ G, Hid (w.heap.size = G) := ⟨_, rfl⟩
  go_enter Tryz.func154, Tryz.ntmps154
  go_wp2
  rw [HG.out]
  have hit0 : (w.iter s 0).heap[G]? = some (.stringIter s 0) := by rw [← HG.out]; exact World.iter_heap w s 0
  have HB0 : Hid (Below G w (w.iter s 0)) := hid (by rw [← HG.out]; exact iter_below w s 0)
  go_loopg [9, 10] s.size (fun g _ _ wx => ∃ i : Nat, i ≤ s.size ∧ g = s.size - i ∧ wx.heap[G]? = some (.stringIter s i) ∧ Hid (Below G w wx) ∧ Hid (No s ch i))
  case atStart => exact ⟨0, Nat.zero_le _, rfl, hit0, HB0, fun q hq => by omega⟩
  case round =>
    obtain ⟨i, hi, hg, hit, HB, HNo⟩ := hrel
    clear hit0
    have hGs : G < wr.heap.size := by
      rcases Nat.lt_or_ge G wr.heap.size with h | h
      · exact h
      · rw [Array.getElem?_eq_none h] at hit; cases hit
    by_cases hlt : i < s.size
    · obtain ⟨x, hx⟩ : ∃ x : UInt8, s[i]'hlt = x := ⟨_, rfl⟩
      have hxg : s.data.toList.getD i 0 = x := by rw [byte_getD s i hlt, hx]
      by_cases hx128 : x.toNat < 128
      · have hnx := fun ty => Lib.run_next_ascii_at (P := Tryz.prog) wr G s i ty hit hlt (by rw [hx]; exact hx128)
        rw [hx] at hnx
        obtain ⟨w1, HW1⟩ : ∃ w1, Hid (wr.iterAt G s (i + 1) = w1) := ⟨_, rfl⟩
        have hit1 : w1.heap[G]? = some (.stringIter s (i + 1)) := by rw [← HW1.out]; exact Lib.iterAt_heap wr G s i (i + 1) hit
        have HB1 : Hid (Below G w w1) := hid (by rw [← HW1.out]; exact iterAt_below HB.out (Nat.le_refl _))
        rw [HW1.out] at hnx
        have hback : ((x.toNat : Int)).toNat.toUInt8 = x := by simp
        have HIR : Hid (∀ W, Calls Tryz.prog 193 #[.string ch, .int .i32 (x.toNat : Int)] W fun e w' => e = .returned (.int .i64 (Lib.indexByte ch.data.toList x)) ∧ w' = W) := fun W => by
          have := Any.strings_IndexRune_ascii Tryz.lays152 ch (x.toNat : Int) W (by omega) (by omega)
          rw [hback] at this
          exact this
        obtain ⟨j, HJ⟩ : ∃ j, Hid (Lib.indexByte ch.data.toList x = j) := ⟨_, rfl⟩
        rw [HJ.out] at HIR
        have hmem : Hid (0 ≤ j ↔ x ∈ ch.data.toList) := hid (by rw [← HJ.out]; exact indexByte_mem _ _)
        clear hit hx
        by_cases hj : 0 ≤ j
        · go_wp2_with (go_at_call 193; refine (HIR.out _).mono ?_; rintro ev w' ⟨rfl, rfl⟩)
          go_ret
          refine ⟨⟨(i : Int), rfl, ⟨fun _ => ⟨x, ?_, hmem.out.1 hj⟩, fun _ => by omega⟩⟩, by rw [HG.out]; exact HB1.out⟩
          rw [← hxg, List.getD_eq_getElem?_getD, List.getElem?_eq_getElem (by rw [← Lib.size_eq]; exact hlt)]
          exact List.getElem_mem _
        · have HNo1 : Hid (No s ch (i + 1)) := fun q hq => by
            rcases Nat.lt_or_ge q i with h | h
            · exact HNo.out q h
            · obtain rfl : q = i := by omega
              rw [hxg]
              exact fun hm => hj (hmem.out.2 hm)
          go_wp2_with (go_at_call 193; refine (HIR.out _).mono ?_; rintro ev w' ⟨rfl, rfl⟩)
          go_roundg (s.size - (i + 1))
          case measure => omega
          case rel => exact ⟨i + 1, by omega, rfl, hit1, HB1, HNo1⟩
      · obtain ⟨e1, e2, e3, e4, e5⟩ := high_step s i hlt (by rw [hx]; omega)
        have hnx := fun ty => Lib.run_next_any_at (P := Tryz.prog) wr G s i ty hit hlt
        obtain ⟨rn, HRN⟩ : ∃ rn, Hid ((Utf8.decode s i).1 = rn) := ⟨_, rfl⟩
        obtain ⟨wd, HWD⟩ : ∃ wd, Hid ((Utf8.decode s i).2 = wd) := ⟨_, rfl⟩
        rw [HRN.out] at e1 e2
        rw [HWD.out] at e3 e4 e5
        rw [HRN.out, HWD.out] at hnx
        obtain ⟨w1, HW1⟩ : ∃ w1, Hid (wr.iterAt G s (i + wd) = w1) := ⟨_, rfl⟩
        have hit1 : w1.heap[G]? = some (.stringIter s (i + wd)) := by rw [← HW1.out]; exact Lib.iterAt_heap wr G s i (i + wd) hit
        have HB1 : Hid (Below G w w1) := hid (by rw [← HW1.out]; exact iterAt_below HB.out (Nat.le_refl _))
        rw [HW1.out] at hnx
        have HIR : Hid (∀ W, Calls Tryz.prog 193 #[.string ch, .int .i32 (rn : Int)] W fun e w' => e = .returned (.int .i64 (-1)) ∧ Below W.heap.size W w') := fun W => by
          by_cases h65 : rn = 65533
          · rw [h65]; exact indexRune_err ch HCH.out h100 W
          · exact indexRune_high ch HCH.out h100 rn e1 e2 h65 W
        have HNo1 : Hid (No s ch (i + wd)) := fun q hq => by
          rcases Nat.lt_or_ge q i with h | h
          · exact HNo.out q h
          · intro hm
            have := HCH.out.mem hm
            have := e5 q h hq
            omega
        have hG1 : G < w1.heap.size := by
          rcases Nat.lt_or_ge G w1.heap.size with h | h
          · exact h
          · rw [Array.getElem?_eq_none h] at hit1; cases hit1
        clear hit hx hxg e5 e2
        go_wp2_with (go_at_call 193; refine (HIR.out _).mono ?_; rintro ev w2 ⟨rfl, hb2⟩)
        have hit2 : w2.heap[G]? = some (.stringIter s (i + wd)) := (hb2.block G hG1).trans hit1
        have HB2 : Hid (Below G w w2) := HB1.out.trans (hb2.mono (Nat.le_of_lt hG1))
        go_roundg (s.size - (i + wd))
        case measure => omega
        case rel => exact ⟨i + wd, e4, rfl, hit2, HB2, HNo1⟩
    · have hnx := fun ty => Lib.run_next_end_at (P := Tryz.prog) wr G s i ty hit hlt
      obtain rfl : i = s.size := by omega
      go_wp2
      go_ret
      exact ⟨⟨-1, rfl, ⟨fun h => absurd h (by decide), fun h => absurd h (no_all HNo.out)⟩⟩, by rw [HG.out]; exact HB.out⟩
theorem info258 : (Tryz.prog.info? 258).map (fun i => (i.zero, i.size)) = some (some (.agg (Array.replicate 256 (.bool false))), 256) := by kernel_rfl
theorem indexAny_iff (s ch : List UInt8) : 0 ≤ Lib.indexAny s ch ↔ ∃ x ∈ s, x ∈ ch := by
  induction s with
  | nil => simp [Lib.indexAny]
  | cons b l ih =>
    unfold Lib.indexAny
    by_cases hb : b ∈ ch
    · rw [if_pos (by simpa using hb)]
      simp [hb]
    · rw [if_neg (by simpa using hb)]
      have hge := Lib.indexAny_ge ch l
      simp only [List.mem_cons, exists_eq_or_imp, hb, false_or]
      rw [← ih]
      by_cases h1 : Lib.indexAny l ch = -1
      · simp [h1]
      · have h2 : (Lib.indexAny l ch == -1) = false := beq_eq_false_iff_ne.2 h1
        rw [h2]
        simp only [Bool.false_eq_true, if_false]
        omega
theorem indexAny_any (s ch : ByteArray) (h2 : 2 ≤ ch.size) (h100 : ch.size ≤ 100) (hch : Asc ch) (hs : s.size ≤ 1000000) (w : World) :
    Calls Tryz.prog 154 #[.string s, .string ch] w fun e w' => (∃ i : Int, e = .returned (.int .i64 i) ∧ (0 ≤ i ↔ hasAny s ch)) ∧ Below w.heap.size w w' := by
  by_cases h8 : s.size ≤ 8
  · exact indexAny_short s ch h2 h100 hch h8 w
  · refine (Any.strings_IndexAny_long Tryz.lays153 (zero_of_info info258).1 (zero_of_info info258).2 s ch w h2 (by omega) (by omega) (by omega) (fun j b hb => hch.mem (List.mem_of_getElem? hb))).mono ?_
    rintro e w' ⟨rfl, rfl⟩
    exact ⟨⟨_, rfl, indexAny_iff _ _⟩, ((Below.refl _ w).alloc (Nat.le_refl _) _).alloc (by simp) _⟩
open Classical in
set_option maxRecDepth 20000 in
theorem containsAny_any (s ch : ByteArray) (h2 : 2 ≤ ch.size) (h100 : ch.size ≤ 100) (hch : Asc ch) (hs : s.size ≤ 1000000) (w : World) :
    Calls Tryz.prog 125 #[.string s, .string ch] w fun e w' => (∃ b : Bool, e = .returned (.bool b) ∧ (b = true ↔ hasAny s ch)) ∧ Below w.heap.size w w' := by
  have HI : Hid (Calls Tryz.prog 154 #[.string s, .string ch] w fun e w' => (∃ i : Int, e = .returned (.int .i64 i) ∧ (0 ≤ i ↔ hasAny s ch)) ∧ Below w.heap.size w w') := indexAny_any s ch h2 h100 hch hs w
  go_enter Tryz.func125, Tryz.ntmps125
  go_wp2_with fail
  refine HI.out.mono ?_
  rintro ev w1 ⟨⟨i, rfl, hi⟩, hb⟩
  have HII : Hid _ := hi
  clear hi
  go_wp2
  go_ret
  exact ⟨⟨_, rfl, by rw [← HII.out]; simp⟩, hb⟩
end Go.Proofs.YtbpdielmdhhdfaaGreatDoor
/- Package object: the kinds' names; 'fits'. -/
namespace Go.Proofs.YtbpdielmdhhdfaaGreatDoor
open Go.RowKit
set_option linter.unusedVariables false
set_option linter.unusedSimpArgs false
/-- 3.1: a kind's name; none: empty. -/
def kN (k : Int) : ByteArray := if k == 1 then ⟨#[99, 111, 109, 109, 105, 116]⟩ else if k == 2 then ⟨#[116, 114, 101, 101]⟩ else if k == 3 then ⟨#[98, 108, 111, 98]⟩ else if k == 4 then ⟨#[116, 97, 103]⟩ else ⟨#[]⟩
set_option maxRecDepth 20000 in
theorem kindName_any (k : Int) (w : World) : Calls Tryz.prog 65 #[.int .i64 k] w fun e w' => e = .returned (.string (kN k)) ∧ w' = w := by
  go_enter Tryz.func65, Tryz.ntmps65
  go_wp2
  all_goals (go_ret; refine ⟨?_, rfl⟩; unfold kN; simp [*])
set_option maxRecDepth 20000 in
theorem name_any (k : Int) (w : World) : Calls Tryz.prog 37 #[.int .i64 k] w fun e w' => e = .returned (.string (kN k)) ∧ w' = w := by
  go_enter Tryz.func37, Tryz.ntmps37
  go_wp2
  all_goals (go_ret; refine ⟨?_, rfl⟩; unfold kN; simp [*])
/-- 3.1: 'fits': no kind (20), too long (11), or it fits. -/
def fitsV (k : Int) (n : Nat) : Value := if (kN k).toList.isEmpty = true then .iface 35 (.int .i64 20) else if (100000 : Int) < n then .iface 35 (.int .i64 11) else .nilIface
set_option maxRecDepth 20000 in
theorem fits_any (k : Int) (a : Option Addr) (n cap : Nat) (w : World) : Calls Tryz.prog 33 #[.agg #[.int .i64 k, .slice a n cap]] w fun e w' => e = .returned (fitsV k n) ∧ w' = w.alloc (.cells #[.int .i64 k, .slice a n cap] 25) := by
  go_enter Tryz.func33, Tryz.ntmps33
  go_wp2_with (go_at_call 65; refine (kindName_any _ _).mono ?_; rintro ev w1 ⟨rfl, rfl⟩)
  all_goals (go_ret; refine ⟨?_, rfl⟩; unfold fitsV; simp [*])
end Go.Proofs.YtbpdielmdhhdfaaGreatDoor
