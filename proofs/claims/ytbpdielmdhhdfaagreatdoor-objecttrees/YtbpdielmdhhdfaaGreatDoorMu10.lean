import Derived.Test.YtbpdielmdhhdfaaGreatDoorMu09
import Derived.Test.YtbpdielmdhhdfaaGreatDoorMu08
import Derived.Lib.OthersKept
import Derived.Lib.TrimUEq
import Derived.Lib.SpaceUEq
import Derived.Lib.QuoteLoop
import Derived.Test.YtbpdielmdhhdfaaGreatDoorMu05
import Derived.Test.YtbpdielmdhhdfaaGreatDoorMu07
/- strings.IndexAny and ContainsAny, of any text, with ASCII signs. -/
namespace Go.Proofs.YtbpdielmdhhdfaaGreatDoor
open Go.RowKit
set_option linter.unusedVariables false
set_option linter.unusedSimpArgs false
theorem byte_getD (s : ByteArray) (q : Nat) (h : q < s.size) : s.data.toList.getD q 0 = s[q]'h := by
  rw [List.getD_eq_getElem?_getD, Lib.data_getElem? s q h]
  rfl
/-- A step over what is no ASCII. -/
theorem high_step (s : ByteArray) (pos : Nat) (h : pos < s.size) (ha : 128 ≤ (s[pos]'h).toNat) :
    128 ≤ (Utf8.decode s pos).1 ∧ Utf8.valid ((Utf8.decode s pos).1 : Int) = true ∧ 1 ≤ (Utf8.decode s pos).2 ∧ pos + (Utf8.decode s pos).2 ≤ s.size ∧ ∀ q, pos ≤ q → q < pos + (Utf8.decode s pos).2 → 128 ≤ (s.data.toList.getD q 0).toNat := by
  obtain ⟨h1, h2⟩ := decode_high s pos h ha
  have hN := Lib.decode_N s pos
  have hsz := Lib.size_eq s
  have hb0 : 128 ≤ (s.data.toList.getD pos 0).toNat := by rw [byte_getD s pos h]; exact ha
  have hv := Lib.decodeN_valid (s.data.toList.length - pos) (s.data.toList.getD pos 0).toNat (s.data.toList.getD (pos + 1) 0).toNat (s.data.toList.getD (pos + 2) 0).toNat (s.data.toList.getD (pos + 3) 0).toNat (UInt8.toNat_lt _)
  have hw := Lib.decodeN_width_le (s.data.toList.length - pos) (s.data.toList.getD pos 0).toNat (s.data.toList.getD (pos + 1) 0).toNat (s.data.toList.getD (pos + 2) 0).toNat (s.data.toList.getD (pos + 3) 0).toNat (by omega)
  have hc := Lib.decodeN_conts (s.data.toList.length - pos) (s.data.toList.getD pos 0).toNat (s.data.toList.getD (pos + 1) 0).toNat (s.data.toList.getD (pos + 2) 0).toNat (s.data.toList.getD (pos + 3) 0).toNat
  rw [← hN] at hv hw hc
  obtain ⟨c1, c2, c3, c4⟩ := hc
  refine ⟨h1, ?_, h2, by omega, fun q hq1 hq2 => ?_⟩
  · unfold Utf8.valid
    simp
    omega
  · have e : q = pos ∨ q = pos + 1 ∨ q = pos + 2 ∨ q = pos + 3 := by omega
    rcases e with rfl | rfl | rfl | rfl
    · exact hb0
    · have := c1 (by omega); omega
    · have := c2 (by omega); omega
    · have := c3 (by omega); omega
/-- None of the signs ahead of i. -/
def No (s ch : ByteArray) (i : Nat) : Prop := ∀ q, q < i → s.data.toList.getD q 0 ∉ ch.data.toList
theorem Asc.mem {ch : ByteArray} (h : Asc ch) {x : UInt8} (hx : x ∈ ch.data.toList) : x.toNat < 128 := by
  obtain ⟨q, hq, rfl⟩ := List.getElem_of_mem hx
  exact h q (by rw [Lib.size_eq]; exact hq)
theorem iterAt_below {B : Nat} {w0 w : World} {k : Nat} {s : ByteArray} {p : Nat} (h : Below B w0 w) (hk : B ≤ k) : Below B w0 (w.iterAt k s p) :=
  ⟨h.os, h.tape, h.output, by simp [World.iterAt]; exact h.size, fun j hj => by
    show (w.heap.setIfInBounds k _)[j]? = _
    rw [Array.getElem?_setIfInBounds_ne (by omega)]
    exact h.block j hj⟩
theorem indexByte_low (l : List UInt8) (c : UInt8) : -1 ≤ Lib.indexByte l c := by
  induction l with
  | nil => simp [Lib.indexByte]
  | cons b l ih =>
    unfold Lib.indexByte
    split
    · decide
    · split
      · exact Int.le_refl _
      · omega
theorem indexByte_mem (l : List UInt8) (c : UInt8) : (0 ≤ Lib.indexByte l c) ↔ c ∈ l := by
  induction l with
  | nil => simp [Lib.indexByte]
  | cons b l ih =>
    unfold Lib.indexByte
    by_cases hb : b = c
    · subst hb; simp
    · have hbc : (b == c) = false := beq_eq_false_iff_ne.2 hb
      rw [hbc]
      simp only [Bool.false_eq_true, if_false, List.mem_cons, Ne.symm hb, false_or]
      rw [← ih]
      by_cases h1 : Lib.indexByte l c = -1
      · simp [h1]
      · have h2 : (Lib.indexByte l c == -1) = false := beq_eq_false_iff_ne.2 h1
        rw [h2]
        simp only [Bool.false_eq_true, if_false]
        have := indexByte_low l c
        omega
/-- Whether one of the signs is in the text. -/
def hasAny (s ch : ByteArray) : Prop := ∃ x ∈ s.data.toList, x ∈ ch.data.toList
theorem no_all {s ch : ByteArray} (h : No s ch s.size) : ¬ hasAny s ch := by
  rintro ⟨x, hx, hc⟩
  obtain ⟨q, hq, rfl⟩ := List.getElem_of_mem hx
  refine h q (by rw [Lib.size_eq]; exact hq) ?_
  rw [List.getD_eq_getElem?_getD, List.getElem?_eq_getElem hq]
  exact hc
set_option maxRecDepth 20000 in
set_option maxHeartbeats 1000000 in
theorem indexAny_short (s ch : ByteArray) (h2 : 2 ≤ ch.size) (h100 : ch.size ≤ 100) (hch : Asc ch) (h8 : s.size ≤ 8) (w : World) :
    Calls Tryz.prog 154 #[.string s, .string ch] w fun e w' => (∃ i : Int, e = .returned (.int .i64 i) ∧ (0 ≤ i ↔ hasAny s ch)) ∧ Below w.heap.size w w' := by
  have HCH : Hid (Asc ch) := hch
  clear hch
  have hemp : ch.toList.isEmpty = false := by
    rw [Lib.toList_data]
    cases h : ch.data.toList with
    | nil => have := Lib.size_eq ch; rw [h, List.length_nil] at this; omega
    | cons _ _ => rfl
  have hn1 : ((ch.size : Int) == 1) = false := beq_eq_false_iff_ne.2 (by omega)
  have hn1' : ¬ (ch.size : Int) = 1 := by omega
  have h8i : ¬ (8 : Int) < (s.size : Int) := by omega
  obtain ⟨G, HG⟩ : ∃ G, Hid (w.heap.size = G) := ⟨_, rfl⟩
  go_enter Tryz.func154, Tryz.ntmps154
  go_wp2
  rw [HG.out]
  have hit0 : (w.iter s 0).heap[G]? = some (.stringIter s 0) := by rw [← HG.out]; exact World.iter_heap w s 0
  have HB0 : Hid (Below G w (w.iter s 0)) := hid (by rw [← HG.out]; exact iter_below w s 0)
  go_loopg [9, 10] s.size (fun g _ _ wx => ∃ i : Nat, i ≤ s.size ∧ g = s.size - i ∧ wx.heap[G]? = some (.stringIter s i) ∧ Hid (Below G w wx) ∧ Hid (No s ch i))
  case atStart => exact ⟨0, Nat.zero_le _, rfl, hit0, HB0, fun q hq => by omega⟩
  case round =>
    obtain ⟨i, hi, hg, hit, HB, HNo⟩ := hrel
    clear hit0
    have hGs : G < wr.heap.size := by
      rcases Nat.lt_or_ge G wr.heap.size with h | h
      · exact h
      · rw [Array.getElem?_eq_none h] at hit; cases hit
    by_cases hlt : i < s.size
    · obtain ⟨x, hx⟩ : ∃ x : UInt8, s[i]'hlt = x := ⟨_, rfl⟩
      have hxg : s.data.toList.getD i 0 = x := by rw [byte_getD s i hlt, hx]
      by_cases hx128 : x.toNat < 128
      · have hnx := fun ty => Lib.run_next_ascii_at (P := Tryz.prog) wr G s i ty hit hlt (by rw [hx]; exact hx128)
        rw [hx] at hnx
        obtain ⟨w1, HW1⟩ : ∃ w1, Hid (wr.iterAt G s (i + 1) = w1) := ⟨_, rfl⟩
        have hit1 : w1.heap[G]? = some (.stringIter s (i + 1)) := by rw [← HW1.out]; exact Lib.iterAt_heap wr G s i (i + 1) hit
        have HB1 : Hid (Below G w w1) := hid (by rw [← HW1.out]; exact iterAt_below HB.out (Nat.le_refl _))
        rw [HW1.out] at hnx
        have hback : ((x.toNat : Int)).toNat.toUInt8 = x := by simp
        have HIR : Hid (∀ W, Calls Tryz.prog 193 #[.string ch, .int .i32 (x.toNat : Int)] W fun e w' => e = .returned (.int .i64 (Lib.indexByte ch.data.toList x)) ∧ w' = W) := fun W => by
          have := Any.strings_IndexRune_ascii Tryz.lays152 ch (x.toNat : Int) W (by omega) (by omega)
          rw [hback] at this
          exact this
        obtain ⟨j, HJ⟩ : ∃ j, Hid (Lib.indexByte ch.data.toList x = j) := ⟨_, rfl⟩
        rw [HJ.out] at HIR
        have hmem : Hid (0 ≤ j ↔ x ∈ ch.data.toList) := hid (by rw [← HJ.out]; exact indexByte_mem _ _)
        clear hit hx
        by_cases hj : 0 ≤ j
        · go_wp2_with (go_at_call 193; refine (HIR.out _).mono ?_; rintro ev w' ⟨rfl, rfl⟩)
          go_ret
          refine ⟨⟨(i : Int), rfl, ⟨fun _ => ⟨x, ?_, hmem.out.1 hj⟩, fun _ => by omega⟩⟩, by rw [HG.out]; exact HB1.out⟩
          rw [← hxg, List.getD_eq_getElem?_getD, List.getElem?_eq_getElem (by rw [← Lib.size_eq]; exact hlt)]
          exact List.getElem_mem _
        · have HNo1 : Hid (No s ch (i + 1)) := fun q hq => by
            rcases Nat.lt_or_ge q i with h | h
            · exact HNo.out q h
            · obtain rfl : q = i := by omega
              rw [hxg]
              exact fun hm => hj (hmem.out.2 hm)
          go_wp2_with (go_at_call 193; refine (HIR.out _).mono ?_; rintro ev w' ⟨rfl, rfl⟩)
          go_roundg (s.size - (i + 1))
          case measure => omega
          case rel => exact ⟨i + 1, by omega, rfl, hit1, HB1, HNo1⟩
      · obtain ⟨e1, e2, e3, e4, e5⟩ := high_step s i hlt (by rw [hx]; omega)
        have hnx := fun ty => Lib.run_next_any_at (P := Tryz.prog) wr G s i ty hit hlt
        obtain ⟨rn, HRN⟩ : ∃ rn, Hid ((Utf8.decode s i).1 = rn) := ⟨_, rfl⟩
        obtain ⟨wd, HWD⟩ : ∃ wd, Hid ((Utf8.decode s i).2 = wd) := ⟨_, rfl⟩
        rw [HRN.out] at e1 e2
        rw [HWD.out] at e3 e4 e5
        rw [HRN.out, HWD.out] at hnx
        obtain ⟨w1, HW1⟩ : ∃ w1, Hid (wr.iterAt G s (i + wd) = w1) := ⟨_, rfl⟩
        have hit1 : w1.heap[G]? = some (.stringIter s (i + wd)) := by rw [← HW1.out]; exact Lib.iterAt_heap wr G s i (i + wd) hit
        have HB1 : Hid (Below G w w1) := hid (by rw [← HW1.out]; exact iterAt_below HB.out (Nat.le_refl _))
        rw [HW1.out] at hnx
        have HIR : Hid (∀ W, Calls Tryz.prog 193 #[.string ch, .int .i32 (rn : Int)] W fun e w' => e = .returned (.int .i64 (-1)) ∧ Below W.heap.size W w') := fun W => by
          by_cases h65 : rn = 65533
          · rw [h65]; exact indexRune_err ch HCH.out h100 W
          · exact indexRune_high ch HCH.out h100 rn e1 e2 h65 W
        have HNo1 : Hid (No s ch (i + wd)) := fun q hq => by
          rcases Nat.lt_or_ge q i with h | h
          · exact HNo.out q h
          · intro hm
            have := HCH.out.mem hm
            have := e5 q h hq
            omega
        have hG1 : G < w1.heap.size := by
          rcases Nat.lt_or_ge G w1.heap.size with h | h
          · exact h
          · rw [Array.getElem?_eq_none h] at hit1; cases hit1
        clear hit hx hxg e5 e2
        go_wp2_with (go_at_call 193; refine (HIR.out _).mono ?_; rintro ev w2 ⟨rfl, hb2⟩)
        have hit2 : w2.heap[G]? = some (.stringIter s (i + wd)) := (hb2.block G hG1).trans hit1
        have HB2 : Hid (Below G w w2) := HB1.out.trans (hb2.mono (Nat.le_of_lt hG1))
        go_roundg (s.size - (i + wd))
        case measure => omega
        case rel => exact ⟨i + wd, e4, rfl, hit2, HB2, HNo1⟩
    · have hnx := fun ty => Lib.run_next_end_at (P := Tryz.prog) wr G s i ty hit hlt
      obtain rfl : i = s.size := by omega
      go_wp2
      go_ret
      exact ⟨⟨-1, rfl, ⟨fun h => absurd h (by decide), fun h => absurd h (no_all HNo.out)⟩⟩, by rw [HG.out]; exact HB.out⟩
theorem info258 : (Tryz.prog.info? 258).map (fun i => (i.zero, i.size)) = some (some (.agg (Array.replicate 256 (.bool false))), 256) := by kernel_rfl
theorem indexAny_iff (s ch : List UInt8) : 0 ≤ Lib.indexAny s ch ↔ ∃ x ∈ s, x ∈ ch := by
  induction s with
  | nil => simp [Lib.indexAny]
  | cons b l ih =>
    unfold Lib.indexAny
    by_cases hb : b ∈ ch
    · rw [if_pos (by simpa using hb)]
      simp [hb]
    · rw [if_neg (by simpa using hb)]
      have hge := Lib.indexAny_ge ch l
      simp only [List.mem_cons, exists_eq_or_imp, hb, false_or]
      rw [← ih]
      by_cases h1 : Lib.indexAny l ch = -1
      · simp [h1]
      · have h2 : (Lib.indexAny l ch == -1) = false := beq_eq_false_iff_ne.2 h1
        rw [h2]
        simp only [Bool.false_eq_true, if_false]
        omega
theorem indexAny_any (s ch : ByteArray) (h2 : 2 ≤ ch.size) (h100 : ch.size ≤ 100) (hch : Asc ch) (hs : s.size ≤ 1000000) (w : World) :
    Calls Tryz.prog 154 #[.string s, .string ch] w fun e w' => (∃ i : Int, e = .returned (.int .i64 i) ∧ (0 ≤ i ↔ hasAny s ch)) ∧ Below w.heap.size w w' := by
  by_cases h8 : s.size ≤ 8
  · exact indexAny_short s ch h2 h100 hch h8 w
  · refine (Any.strings_IndexAny_long Tryz.lays153 (zero_of_info info258).1 (zero_of_info info258).2 s ch w h2 (by omega) (by omega) (by omega) (fun j b hb => hch.mem (List.mem_of_getElem? hb))).mono ?_
    rintro e w' ⟨rfl, rfl⟩
    exact ⟨⟨_, rfl, indexAny_iff _ _⟩, ((Below.refl _ w).alloc (Nat.le_refl _) _).alloc (by simp) _⟩
open Classical in
set_option maxRecDepth 20000 in
theorem containsAny_any (s ch : ByteArray) (h2 : 2 ≤ ch.size) (h100 : ch.size ≤ 100) (hch : Asc ch) (hs : s.size ≤ 1000000) (w : World) :
    Calls Tryz.prog 125 #[.string s, .string ch] w fun e w' => (∃ b : Bool, e = .returned (.bool b) ∧ (b = true ↔ hasAny s ch)) ∧ Below w.heap.size w w' := by
  have HI : Hid (Calls Tryz.prog 154 #[.string s, .string ch] w fun e w' => (∃ i : Int, e = .returned (.int .i64 i) ∧ (0 ≤ i ↔ hasAny s ch)) ∧ Below w.heap.size w w') := indexAny_any s ch h2 h100 hch hs w
  go_enter Tryz.func125, Tryz.ntmps125
  go_wp2_with fail
  refine HI.out.mono ?_
  rintro ev w1 ⟨⟨i, rfl, hi⟩, hb⟩
  have HII : Hid _ := hi
  clear hi
  go_wp2
  go_ret
  exact ⟨⟨_, rfl, by rw [← HII.out]; simp⟩, hb⟩
end Go.Proofs.YtbpdielmdhhdfaaGreatDoor
/- Package object: a person's zone, a text's numbers, a message, lines. -/
namespace Go.Proofs.YtbpdielmdhhdfaaGreatDoor
open Go.RowKit
set_option linter.unusedVariables false
set_option linter.unusedSimpArgs false
/-- Two digits. -/
def two (n : Nat) : List UInt8 := [UInt8.ofNat (48 + n / 10), UInt8.ofNat (48 + n % 10)]
theorem itoa_small (i : Nat) (hi : i < 10) (w : World) : Calls Tryz.prog 72 #[.int .i64 i] w fun e w' => e = .returned (.string ⟨[UInt8.ofNat (48 + i)].toArray⟩) ∧ w' = w := by
  refine (Any.strconv_Itoa_small Tryz.lays171 i (by omega) w).mono ?_
  rintro e w' ⟨rfl, rfl⟩
  rw [Lib.decDigits_one hi]
  exact ⟨rfl, rfl⟩
set_option maxRecDepth 20000 in
theorem two_any (n : Nat) (hn : n < 100) (w : World) : Calls Tryz.prog 137 #[.int .i64 n] w fun e w' => e = .returned (.string ⟨(two n).toArray⟩) ∧ w' = w := by
  obtain ⟨a, HA⟩ : ∃ a, Hid (n / 10 = a) := ⟨_, rfl⟩
  obtain ⟨b, HB⟩ : ∃ b, Hid (n % 10 = b) := ⟨_, rfl⟩
  have ha : ((n : Int)).tdiv 10 = (a : Int) := by rw [Int.tdiv_eq_ediv_of_nonneg (by omega), ← HA.out]; omega
  have hb : ((n : Int)).tmod 10 = (b : Int) := by rw [Int.tmod_eq_emod_of_nonneg (by omega), ← HB.out]; omega
  have ha2 : (n : Int) / 10 = (a : Int) := by rw [← HA.out]; omega
  have hb2 : (n : Int) % 10 = (b : Int) := by rw [← HB.out]; omega
  have ha9 : a < 10 := by rw [← HA.out]; omega
  have hb9 : b < 10 := by rw [← HB.out]; omega
  have HE : Hid ((⟨[UInt8.ofNat (48 + a)].toArray⟩ : ByteArray) ++ ⟨[UInt8.ofNat (48 + b)].toArray⟩ = ⟨(two n).toArray⟩) := hid (by rw [str_app]; unfold two; rw [HA.out, HB.out]; rfl)
  obtain ⟨S, HS⟩ : ∃ S : ByteArray, Hid (S = ⟨[UInt8.ofNat (48 + a)].toArray⟩) := ⟨_, rfl⟩
  obtain ⟨T, HT⟩ : ∃ S : ByteArray, Hid (S = ⟨[UInt8.ofNat (48 + b)].toArray⟩) := ⟨_, rfl⟩
  have hS : S.size = 1 := by rw [HS.out]; rfl
  have hT : T.size = 1 := by rw [HT.out]; rfl
  have HI : Hid (∀ w, Calls Tryz.prog 72 #[.int .i64 a] w fun e w' => e = .returned (.string S) ∧ w' = w) := fun w => by rw [HS.out]; exact itoa_small a ha9 w
  have HJ : Hid (∀ w, Calls Tryz.prog 72 #[.int .i64 b] w fun e w' => e = .returned (.string T) ∧ w' = w) := fun w => by rw [HT.out]; exact itoa_small b hb9 w
  rw [← HS.out, ← HT.out] at HE
  go_enter Tryz.func137, Tryz.ntmps137
  go_wp2_with fail
  refine (HI.out _).mono ?_
  rintro ev w' ⟨rfl, rfl⟩
  go_wp2_with fail
  refine (HJ.out _).mono ?_
  rintro ev w' ⟨rfl, rfl⟩
  go_wp2
  go_ret
  exact ⟨(show _ = Ending.returned (.string (S ++ T)) from rfl).trans (by rw [HE.out]), rfl⟩
/-- 3.3: a zone. -/
def zoneB (z : Int) : List UInt8 := (if z < 0 then 45 else 43) :: (two (z.natAbs / 60) ++ two (z.natAbs % 60))
set_option maxRecDepth 20000 in
theorem zoneText_any (z : Int) (h1 : -840 ≤ z) (h2 : z ≤ 840) (w : World) : Calls Tryz.prog 102 #[.int .i64 z] w fun e w' => e = .returned (.string ⟨(zoneB z).toArray⟩) ∧ w' = w := by
  obtain ⟨n, HN⟩ : ∃ n, Hid (z.natAbs = n) := ⟨_, rfl⟩
  have hn : n ≤ 840 := by rw [← HN.out]; omega
  obtain ⟨a, HA⟩ : ∃ a, Hid (n / 60 = a) := ⟨_, rfl⟩
  obtain ⟨b, HB⟩ : ∃ b, Hid (n % 60 = b) := ⟨_, rfl⟩
  have ha : ((n : Int)).tdiv 60 = (a : Int) := by rw [Int.tdiv_eq_ediv_of_nonneg (by omega), ← HA.out]; omega
  have hb : ((n : Int)).tmod 60 = (b : Int) := by rw [Int.tmod_eq_emod_of_nonneg (by omega), ← HB.out]; omega
  have ha2 : (n : Int) / 60 = (a : Int) := by rw [← HA.out]; omega
  have hb2 : (n : Int) % 60 = (b : Int) := by rw [← HB.out]; omega
  have ha9 : a < 100 := by rw [← HA.out]; omega
  have hb9 : b < 100 := by rw [← HB.out]; omega
  obtain ⟨S, HS⟩ : ∃ S : ByteArray, Hid (S = ⟨(two a).toArray⟩) := ⟨_, rfl⟩
  obtain ⟨T, HT⟩ : ∃ S : ByteArray, Hid (S = ⟨(two b).toArray⟩) := ⟨_, rfl⟩
  have hS : S.size = 2 := by rw [HS.out]; rfl
  have hT : T.size = 2 := by rw [HT.out]; rfl
  have HI : Hid (∀ w, Calls Tryz.prog 137 #[.int .i64 a] w fun e w' => e = .returned (.string S) ∧ w' = w) := fun w => by rw [HS.out]; exact two_any a ha9 w
  have HJ : Hid (∀ w, Calls Tryz.prog 137 #[.int .i64 b] w fun e w' => e = .returned (.string T) ∧ w' = w) := fun w => by rw [HT.out]; exact two_any b hb9 w
  by_cases hz : z < 0
  · obtain rfl : z = -(n : Int) := by rw [← HN.out]; omega
    have HE : Hid ((⟨#[45]⟩ : ByteArray) ++ S ++ T = ⟨(zoneB (-(n : Int))).toArray⟩) := hid (by
      rw [HS.out, HT.out, show (⟨#[45]⟩ : ByteArray) = ⟨[45].toArray⟩ from rfl, str_app, str_app]
      unfold zoneB
      rw [if_pos hz, HN.out, HA.out, HB.out]
      rfl)
    have hP : ((⟨#[45]⟩ : ByteArray) ++ S).size = 3 := by rw [ByteArray.size_append, hS]; rfl
    have h45 : (⟨#[45]⟩ : ByteArray).size = 1 := rfl
    go_enter Tryz.func102, Tryz.ntmps102
    go_wp2_with fail
    refine (HI.out _).mono ?_
    rintro ev w' ⟨rfl, rfl⟩
    go_wp2_with fail
    refine (HJ.out _).mono ?_
    rintro ev w' ⟨rfl, rfl⟩
    go_wp2
    go_ret
    exact ⟨(show _ = Ending.returned (.string (⟨#[45]⟩ ++ S ++ T)) from rfl).trans (by rw [HE.out]), rfl⟩
  · obtain rfl : z = (n : Int) := by rw [← HN.out]; omega
    have HE : Hid ((⟨#[43]⟩ : ByteArray) ++ S ++ T = ⟨(zoneB (n : Int)).toArray⟩) := hid (by
      rw [HS.out, HT.out, show (⟨#[43]⟩ : ByteArray) = ⟨[43].toArray⟩ from rfl, str_app, str_app]
      unfold zoneB
      rw [if_neg hz, HN.out, HA.out, HB.out]
      rfl)
    have hP : ((⟨#[43]⟩ : ByteArray) ++ S).size = 3 := by rw [ByteArray.size_append, hS]; rfl
    have h43 : (⟨#[43]⟩ : ByteArray).size = 1 := rfl
    go_enter Tryz.func102, Tryz.ntmps102
    go_wp2_with fail
    refine (HI.out _).mono ?_
    rintro ev w' ⟨rfl, rfl⟩
    go_wp2_with fail
    refine (HJ.out _).mono ?_
    rintro ev w' ⟨rfl, rfl⟩
    go_wp2
    go_ret
    exact ⟨(show _ = Ending.returned (.string (⟨#[43]⟩ ++ S ++ T)) from rfl).trans (by rw [HE.out]), rfl⟩
theorem fmt_any (n : Nat) (hn : n ≤ 1099511627776) (w : World) (ht : Tab w) : Calls Tryz.prog 95 #[.int .i64 n, .int .i64 10] w fun e w' => e = .returned (.string ⟨(Lib.decDigits n).toArray⟩) ∧ Below w.heap.size w w' := by
  refine (Any.strconv_FormatInt_10 Tryz.laysM173 n (by omega) (by omega) w ht).mono ?_
  rintro e w' ⟨rfl, k, os, rfl⟩
  refine ⟨?_, rfl, rfl, rfl, by simp [Sort.grow], fun j hj => ?_⟩
  · rw [Lib.itoa_nonneg]
  · show (w.heap ++ os)[j]? = _
    rw [Array.getElem?_append_left hj]
theorem indexByte_ge (l : List UInt8) (c : UInt8) : -1 ≤ Lib.indexByte l c := by
  induction l with
  | nil => simp [Lib.indexByte]
  | cons b l ih =>
    unfold Lib.indexByte
    split
    · decide
    · split
      · exact Int.le_refl _
      · omega
/-- 3.3: a message: not long, no 0 in it. -/
def isMsg (s : List UInt8) : Bool := decide (s.length ≤ 2000) && decide ((0 : UInt8) ∉ s)
theorem indexByte_none (l : List UInt8) (c : UInt8) : (0 ≤ Lib.indexByte l c) ↔ c ∈ l := by
  induction l with
  | nil => simp [Lib.indexByte]
  | cons b l ih =>
    unfold Lib.indexByte
    by_cases hb : b = c
    · subst hb; simp
    · have hbc : (b == c) = false := beq_eq_false_iff_ne.2 hb
      rw [hbc]
      simp only [Bool.false_eq_true, if_false, List.mem_cons, Ne.symm hb, false_or]
      rw [← ih]
      by_cases h1 : Lib.indexByte l c = -1
      · simp [h1]
      · have h2 : (Lib.indexByte l c == -1) = false := beq_eq_false_iff_ne.2 h1
        rw [h2]
        simp only [Bool.false_eq_true, if_false]
        have := indexByte_ge l c
        omega
set_option maxRecDepth 20000 in
theorem isMessage_any (s : List UInt8) (w : World) (hs : s.length ≤ 1000000) : Calls Tryz.prog 101 #[.string ⟨s.toArray⟩] w fun e w' => e = .returned (.bool (isMsg s)) ∧ w' = w := by
  obtain ⟨S, HS⟩ : ∃ S : ByteArray, Hid (S = ⟨s.toArray⟩) := ⟨_, rfl⟩
  have hsz : S.size = s.length := by rw [HS.out]; simp [ByteArray.size]
  obtain ⟨c, HC⟩ : ∃ c : Bool, Hid (c = decide (0 ≤ Lib.indexByte s 0)) := ⟨_, rfl⟩
  have HCo : Hid (∀ w, Calls Tryz.prog 136 #[.string S, .string ⟨#[0]⟩] w fun e w' => e = .returned (.bool c) ∧ w' = w) := fun w => by
    rw [HS.out, HC.out]
    exact Any.strings_Contains_one Tryz.lays144 ⟨s.toArray⟩ 0 w
  have HM : Hid (isMsg s = (decide (s.length ≤ 2000) && !c)) := hid (by
    unfold isMsg
    rw [HC.out]
    congr 1
    rw [← decide_not]
    exact decide_eq_decide.2 (by rw [indexByte_none]))
  obtain ⟨n, HN⟩ : ∃ n, Hid (s.length = n) := ⟨_, rfl⟩
  rw [HN.out] at hsz HM
  rw [← HS.out, HM.out]
  by_cases h : n ≤ 2000
  · have hi : (S.size : Int) ≤ 2000 := by omega
    go_enter Tryz.func101, Tryz.ntmps101
    go_wp2_with (go_at_call 136; refine (HCo.out _).mono ?_; rintro ev w' ⟨rfl, rfl⟩)
    go_ret
    refine ⟨?_, rfl⟩
    rw [decide_eq_true h]
    rfl
  · have hi : ¬ (S.size : Int) ≤ 2000 := by omega
    go_enter Tryz.func101, Tryz.ntmps101
    go_wp2
    go_ret
    exact ⟨rfl, rfl⟩
end Go.Proofs.YtbpdielmdhhdfaaGreatDoor
/- Package object: which texts a person may have; which persons can be written. -/
namespace Go.Proofs.YtbpdielmdhhdfaaGreatDoor
open Go.RowKit
set_option linter.unusedVariables false
set_option linter.unusedSimpArgs false
/-- 3.3: a name or an address. -/
def okT (s : List UInt8) : Prop := s.length ≤ 60 ∧ (∀ x ∈ s, x ≠ 60 ∧ x ≠ 62 ∧ x ≠ 10 ∧ x ≠ 0) ∧ Lib.trimS s [32] = s
theorem signs_asc : Asc ⟨#[60, 62, 10, 0]⟩ := by
  intro j h
  have h' : j < 4 := h
  match j, h' with
  | 0, _ => exact (by decide : (60 : UInt8).toNat < 128)
  | 1, _ => exact (by decide : (62 : UInt8).toNat < 128)
  | 2, _ => exact (by decide : (10 : UInt8).toNat < 128)
  | 3, _ => exact (by decide : (0 : UInt8).toNat < 128)
theorem signs_iff (s : List UInt8) : ¬ hasAny ⟨s.toArray⟩ ⟨#[60, 62, 10, 0]⟩ ↔ ∀ x ∈ s, x ≠ 60 ∧ x ≠ 62 ∧ x ≠ 10 ∧ x ≠ 0 := by
  unfold hasAny
  simp only [not_exists, not_and]
  constructor
  · intro h x hx
    have := h x hx
    simpa using this
  · intro h x hx
    have := h x hx
    simpa using this
/-- It is told whether. -/
def BIs (P : Prop) (e : Ending) : Prop := ∃ b : Bool, e = .returned (.bool b) ∧ (b = true ↔ P)
theorem bis_false {P : Prop} (h : ¬ P) : BIs P (.returned (.bool false)) := ⟨false, rfl, ⟨(fun h => by cases h), fun h2 => absurd h2 h⟩⟩
theorem bis_true {P : Prop} (h : P) : BIs P (.returned (.bool true)) := ⟨true, rfl, ⟨fun _ => h, fun _ => rfl⟩⟩
theorem bis_or {P : Prop} {e : Ending} (h : BIs P e) : (P ∧ e = .returned (.bool true)) ∨ (¬ P ∧ e = .returned (.bool false)) := by
  obtain ⟨b, rfl, hb⟩ := h
  cases b with
  | true => exact .inl ⟨hb.1 rfl, rfl⟩
  | false => exact .inr ⟨(fun h => by have := hb.2 h; cases this), rfl⟩
set_option maxRecDepth 20000 in
theorem isPersonText_any (s : List UInt8) (hs : s.length ≤ 1000000) (w : World) :
    Calls Tryz.prog 135 #[.string ⟨s.toArray⟩] w fun e w' => BIs (okT s) e ∧ Below w.heap.size w w' := by
  obtain ⟨S, HS⟩ : ∃ S : ByteArray, Hid (S = ⟨s.toArray⟩) := ⟨_, rfl⟩
  have hsz : S.size = s.length := by rw [HS.out]; simp [ByteArray.size]
  obtain ⟨T, HT⟩ : ∃ S : ByteArray, Hid (S = ⟨(Lib.trimS s [32]).toArray⟩) := ⟨_, rfl⟩
  have HCA : Hid (∀ w, Calls Tryz.prog 125 #[.string S, .string ⟨#[60, 62, 10, 0]⟩] w fun e w' => BIs (¬ ∀ x ∈ s, x ≠ 60 ∧ x ≠ 62 ∧ x ≠ 10 ∧ x ≠ 0) e ∧ Below w.heap.size w w') := fun w => by
    refine (containsAny_any S ⟨#[60, 62, 10, 0]⟩ (by decide) (by decide) signs_asc (by omega) w).mono ?_
    rintro e w' ⟨⟨b, rfl, hb⟩, h2⟩
    refine ⟨⟨b, rfl, ?_⟩, h2⟩
    rw [hb, ← signs_iff, HS.out, Classical.not_not]
  have HTR : Hid (∀ w, Calls Tryz.prog 144 #[.string S, .string ⟨#[32]⟩] w fun e w' => e = .returned (.string T) ∧ Below w.heap.size w w') := fun w => by
    rw [HT.out, HS.out]
    exact Any.strings_Trim_laid Tryz.lays160 info258 ⟨s.toArray⟩ ⟨#[32]⟩ w (by simp [ByteArray.size]; omega) (by decide) (fun j b hb => by
      match j, hb with
      | 0, hb => simp at hb; subst hb; decide
      | j + 1, hb => simp at hb)
  have HEQ : Hid ((T.toList == S.toList) = true ↔ Lib.trimS s [32] = s) := hid (by
    rw [HT.out, HS.out, Lib.toList_data, Lib.toList_data]
    simp)
  rw [← HS.out]
  by_cases h : s.length ≤ 60
  · have hi : (S.size : Int) ≤ 60 := by omega
    go_enter Tryz.func135, Tryz.ntmps135
    go_wp2_with fail
    refine (HCA.out w).mono ?_
    rintro ev w1 ⟨hb, hb1⟩
    have HB1 : Hid _ := hb1
    clear hb1
    rcases bis_or hb with ⟨hno, rfl⟩ | ⟨hyes, rfl⟩
    · have HNO : Hid (¬ okT s) := fun h => hno h.2.1
      clear hno hb
      go_wp2
      go_ret
      exact ⟨bis_false HNO.out, HB1.out⟩
    · have HYE : Hid (∀ x ∈ s, x ≠ 60 ∧ x ≠ 62 ∧ x ≠ 10 ∧ x ≠ 0) := Classical.not_not.1 hyes
      clear hyes hb
      go_wp2_with fail
      refine (HTR.out w1).mono ?_
      rintro ev w2 ⟨rfl, hb2⟩
      have HB2 : Hid (Below w.heap.size w w2) := HB1.out.trans (hb2.mono HB1.out.size)
      clear hb2
      go_wp2
      go_ret
      refine ⟨⟨(T.toList == S.toList), rfl, ?_⟩, HB2.out⟩
      rw [HEQ.out]
      exact ⟨fun h3 => ⟨h, HYE.out, h3⟩, fun h3 => h3.2.2⟩
  · have hi : ¬ (S.size : Int) ≤ 60 := by omega
    go_enter Tryz.func135, Tryz.ntmps135
    go_wp2
    go_ret
    exact ⟨bis_false (fun h2 => h h2.1), Below.refl _ _⟩
/-- However long it is. -/
theorem isPersonText_all (s : List UInt8) (w : World) : Calls Tryz.prog 135 #[.string ⟨s.toArray⟩] w fun e w' => BIs (okT s) e ∧ Below w.heap.size w w' := by
  by_cases h : s.length ≤ 60
  · exact isPersonText_any s (by omega) w
  · obtain ⟨S, HS⟩ : ∃ S : ByteArray, Hid (S = ⟨s.toArray⟩) := ⟨_, rfl⟩
    have hsz : S.size = s.length := by rw [HS.out]; simp [ByteArray.size]
    rw [← HS.out]
    have hi : ¬ (S.size : Int) ≤ 60 := by omega
    go_enter Tryz.func135, Tryz.ntmps135
    go_wp2
    go_ret
    exact ⟨bis_false (fun h2 => h h2.1), Below.refl _ _⟩
/-- A person. -/
structure Per where
  name : List UInt8
  mail : List UInt8
  time : Int
  zone : Int
/-- 3.3: who can be written. -/
def okP (p : Per) : Prop := okT p.name ∧ okT p.mail ∧ (0 ≤ p.time ∧ p.time ≤ 1099511627776) ∧ -840 ≤ p.zone ∧ p.zone ≤ 840
/-- As a value. -/
def perV (p : Per) : Array Value := #[.string ⟨p.name.toArray⟩, .string ⟨p.mail.toArray⟩, .int .i64 p.time, .int .i64 p.zone]
set_option maxRecDepth 20000 in
set_option maxHeartbeats 1000000 in
theorem isPerson_any (p : Per) (w : World) :
    Calls Tryz.prog 100 #[.agg (perV p)] w fun e w' => BIs (okP p) e ∧ Below w.heap.size w w' := by
  obtain ⟨nm, ml, tm, zn⟩ := p
  have HN : Hid (∀ w, Calls Tryz.prog 135 #[.string ⟨nm.toArray⟩] w fun e w' => BIs (okT nm) e ∧ Below w.heap.size w w') := fun w => isPersonText_all nm w
  have HM : Hid (∀ w, Calls Tryz.prog 135 #[.string ⟨ml.toArray⟩] w fun e w' => BIs (okT ml) e ∧ Below w.heap.size w w') := fun w => isPersonText_all ml w
  obtain ⟨N, HNN⟩ : ∃ S : ByteArray, Hid (S = ⟨nm.toArray⟩) := ⟨_, rfl⟩
  obtain ⟨M, HMM⟩ : ∃ S : ByteArray, Hid (S = ⟨ml.toArray⟩) := ⟨_, rfl⟩
  obtain ⟨G, HG⟩ : ∃ G, Hid (w.heap.size = G) := ⟨_, rfl⟩
  obtain ⟨w0, HW0⟩ : ∃ w0, Hid (w.alloc (.cells #[.string N, .string M, .int .i64 tm, .int .i64 zn] 58) = w0) := ⟨_, rfl⟩
  have HB0 : Hid (Below G w w0) := hid (by rw [← HW0.out, ← HG.out]; exact (Below.refl _ w).alloc (Nat.le_refl _) _)
  have hs0 : G < w0.heap.size := by rw [← HW0.out, ← HG.out]; simp
  have HC : Hid (∀ W, Below w0.heap.size w0 W → W.cell? ⟨G, 1, none⟩ = some (.string M) ∧ W.cell? ⟨G, 2, none⟩ = some (.int .i64 tm) ∧ W.cell? ⟨G, 3, none⟩ = some (.int .i64 zn)) := fun W hW => by
    refine ⟨(hW.cell (p := ⟨G, 1, none⟩) hs0).trans ?_, (hW.cell (p := ⟨G, 2, none⟩) hs0).trans ?_, (hW.cell (p := ⟨G, 3, none⟩) hs0).trans ?_⟩
    · rw [← HW0.out, ← HG.out]; simp
    · rw [← HW0.out, ← HG.out]; simp
    · rw [← HW0.out, ← HG.out]; simp
  have hc0 : w0.cell? ⟨G, 0, none⟩ = some (.string N) := by rw [← HW0.out, ← HG.out]; simp
  rw [← HNN.out] at HN
  rw [← HMM.out] at HM
  unfold perV
  simp only
  rw [← HNN.out, ← HMM.out]
  go_enter Tryz.func100, Tryz.ntmps100
  go_wp2_with fail
  rw [HG.out, HW0.out]
  refine (HN.out w0).mono ?_
  rintro ev w1 ⟨hb, hb1⟩
  have HB1 : Hid _ := hb1
  clear hb1
  rcases bis_or hb with ⟨hy1, rfl⟩ | ⟨hn1, rfl⟩
  · have HY1 : Hid (okT nm) := hy1
    clear hy1 hb
    obtain ⟨hc1, hc2, hc3⟩ := HC.out w1 HB1.out
    go_wp2_with fail
    refine (HM.out w1).mono ?_
    rintro ev w2 ⟨hb, hb2⟩
    have HB2 : Hid (Below w0.heap.size w0 w2) := HB1.out.trans (hb2.mono HB1.out.size)
    clear hb2 hc1 hc2 hc3
    have HBE : Hid (Below w.heap.size w w2) := hid (by rw [HG.out]; exact HB0.out.trans (HB2.out.mono (Nat.le_of_lt hs0)))
    obtain ⟨hc1, hc2, hc3⟩ := HC.out w2 HB2.out
    rcases bis_or hb with ⟨hy2, rfl⟩ | ⟨hn2, rfl⟩
    · have HY2 : Hid (okT ml) := hy2
      clear hy2 hb
      by_cases t1 : 0 ≤ tm
      · by_cases t2 : tm ≤ 1099511627776
        · by_cases t3 : -840 ≤ zn
          · by_cases t4 : zn ≤ 840
            · have HOK : Hid (okP ⟨nm, ml, tm, zn⟩) := ⟨HY1.out, HY2.out, ⟨t1, t2⟩, t3, t4⟩
              go_wp2
              go_ret
              exact ⟨bis_true HOK.out, HBE.out⟩
            · have HOK : Hid (¬ okP ⟨nm, ml, tm, zn⟩) := fun h => t4 h.2.2.2.2
              have HT4 : Hid (decide (zn ≤ 840) = false) := decide_eq_false t4
              go_wp2
              go_ret
              refine ⟨?_, HBE.out⟩
              show BIs _ (.returned (.bool (decide (zn ≤ 840))))
              rw [HT4.out]
              exact bis_false HOK.out
          · have HOK : Hid (¬ okP ⟨nm, ml, tm, zn⟩) := fun h => t3 h.2.2.2.1
            go_wp2
            go_ret
            exact ⟨bis_false HOK.out, HBE.out⟩
        · have HOK : Hid (¬ okP ⟨nm, ml, tm, zn⟩) := fun h => t2 h.2.2.1.2
          go_wp2
          go_ret
          exact ⟨bis_false HOK.out, HBE.out⟩
      · have HOK : Hid (¬ okP ⟨nm, ml, tm, zn⟩) := fun h => t1 h.2.2.1.1
        go_wp2
        go_ret
        exact ⟨bis_false HOK.out, HBE.out⟩
    · have HOK : Hid (¬ okP ⟨nm, ml, tm, zn⟩) := fun h => hn2 h.2.1
      clear hn2 hb
      go_wp2
      go_ret
      exact ⟨bis_false HOK.out, HBE.out⟩
  · have HOK : Hid (¬ okP ⟨nm, ml, tm, zn⟩) := fun h => hn1 h.1
    clear hn1 hb
    go_wp2
    go_ret
    exact ⟨bis_false HOK.out, by rw [HG.out]; exact HB0.out.trans (HB1.out.mono (Nat.le_of_lt hs0))⟩
end Go.Proofs.YtbpdielmdhhdfaaGreatDoor
