import Derived.Test.YtbpdielmdhhdfaaGreatDoorMt09
import Derived.Test.YtbpdielmdhhdfaaGreatDoorMt11
import Derived.ArgAppend
import Derived.Laws.IdiomStrings
import Derived.Test.YtbpdielmdhhdfaaGreatDoorMt06
/- '[]byte(s)', and 'append' to it. -/
namespace Go.Proofs.YtbpdielmdhhdfaaGreatDoor
open Go.RowKit
set_option linter.unusedVariables false
set_option linter.unusedSimpArgs false
/-- A string's bytes, as numbers. -/
def nums (l : List UInt8) : List Int := l.map fun b => (b.toNat : Int)
theorem nums_len (l : List UInt8) : (nums l).length = l.length := by simp [nums]
theorem nums_isB (l : List UInt8) : IsB (nums l) := by
  intro x hx
  obtain ⟨b, _, rfl⟩ := List.mem_map.1 hx
  have := b.toNat_lt
  omega
theorem nums_app (l m : List UInt8) : nums (l ++ m) = nums l ++ nums m := by simp [nums]
/-- A slice at the head of a block: its bytes, and room behind them. -/
structure Mk (w : World) (g cap : Nat) (xs : List Int) : Prop where
  lt : g < w.heap.size
  capl : xs.length ≤ cap
  at_ : At w g 0 xs
  spare : ∀ i, xs.length ≤ i → i < cap → (w.cell? ⟨g, i, none⟩).isSome = true ∧ w.frozen? ⟨g, i, none⟩ = false
/-- What is known of a slice of bytes, of whatever address. -/
structure Sl (w : World) (a : Option Addr) (cap : Nat) (l : List Int) : Prop where
  capl : l.length ≤ cap
  at_ : 0 < l.length → ∃ b off, a = some ⟨b, off, none⟩ ∧ b < w.heap.size ∧ At w b off l
  nil : a = none → cap = 0
theorem Sl.below {w w' : World} {a : Option Addr} {cap : Nat} {l : List Int} (h : Sl w a cap l) (hb : Below w.heap.size w w') : Sl w' a cap l :=
  ⟨h.capl, fun h0 => by
    obtain ⟨b, off, e1, e2, e3⟩ := h.at_ h0
    exact ⟨b, off, e1, Nat.lt_of_lt_of_le e2 hb.size, fun i hi => (hb.cell (p := ⟨b, off + i, none⟩) e2).trans (e3 i hi)⟩, h.nil⟩
theorem conv_mk (l : List UInt8) (w : World) : ∃ cap w', (convert 9 23 (.string ⟨l.toArray⟩)).run Tryz.prog w = .ok (.slice (some ⟨w.heap.size, 0, none⟩) l.length cap) w' ∧ Mk w' w.heap.size cap (nums l) ∧ Below w.heap.size w w' ∧ w'.heap.size = w.heap.size + 1 := by
  have hr := run_bytes_of_string (P := Tryz.prog) w 9 23 5 ⟨l.toArray⟩ Tryz.underlying9 Tryz.underlying23 Tryz.underlying5
  have hsz : (⟨l.toArray⟩ : ByteArray).size = l.length := by simp [ByteArray.size]
  rw [hsz] at hr
  have hge := grownCap_ge w l.length 0 5
  generalize grownCap w l.length 0 5 = cap at hr hge
  have hrs : (bytesRow ⟨l.toArray⟩ cap).size = cap := by simp [bytesRow, ByteArray.size]; omega
  rw [hrs] at hr
  have h1 : ∀ i, i < l.length → (bytesRow ⟨l.toArray⟩ cap)[i]? = some (.int .u8 ((nums l).getD i 0)) := fun i hi => by
    simp [bytesRow, nums, hi, Array.getElem?_append]
  generalize bytesRow ⟨l.toArray⟩ cap = R at hr hrs h1
  have hh : (w.drew.alloc (.cells R 5 (cap, cap + 1))).heap[w.heap.size]? = some (.cells R 5 (cap, cap + 1)) := by
    show (w.heap.push _)[w.heap.size]? = _
    simp
  refine ⟨cap, _, hr, ⟨by simp, by rw [nums_len]; exact hge, ?_, ?_⟩, ?_, by simp⟩
  · intro i hi
    rw [nums_len] at hi
    rw [Nat.zero_add, World.cell?, hh]
    exact h1 i hi
  · intro i g1 g2
    constructor
    · rw [World.cell?, hh]
      show (R[i]?).isSome = true
      rw [Array.getElem?_eq_getElem (by omega)]
      rfl
    · rw [World.frozen?, hh]
      simp
      omega
  · exact ⟨rfl, rfl, rfl, by simp, fun k hk => by
      show (w.heap.push _)[k]? = _
      rw [Array.getElem?_push, if_neg (by omega)]⟩
/-- 'append' to it. -/
theorem app_mk (w : World) (g cap : Nat) (xs l : List Int) (a : Option Addr) (c : Nat) (hm : Mk w g cap xs) (hS : Sl w a c l) (hl : xs.length + l.length ≤ 1000000) :
    ∃ g' cap' w', (Builtin.append_ #[23, 23] 23 #[.slice (some ⟨g, 0, none⟩) xs.length cap, .slice a l.length c]).run Tryz.prog w = .ok (.slice (some ⟨g', 0, none⟩) (xs.length + l.length : Nat) cap') w' ∧
      At w' g' 0 (xs ++ l) ∧ xs.length + l.length ≤ cap' ∧ g' < w'.heap.size ∧ (g' = g ∨ w.heap.size ≤ g') ∧ w.grownBy w' (some g) := by
  obtain ⟨i5, hi, hz0, hz1, hz2⟩ := info_parts Tryz.info5
  by_cases h0 : l.length = 0
  · have hl0 : l = [] := List.length_eq_zero_iff.1 h0
    subst hl0
    refine ⟨g, cap, w, ?_, by simpa using hm.at_, by simpa using hm.capl, hm.lt, .inl rfl, ⟨rfl, rfl, rfl, Nat.le_refl _, fun _ _ _ => rfl⟩⟩
    have hc := hm.capl
    cases a with
    | none => simp [Builtin.append_, run_underlying Tryz.underlying23, sizeOf, typeInfo, hi, Builtin.lenOf, Builtin.firstCells, hc, storeCells]
    | some ad => simp [Builtin.append_, run_underlying Tryz.underlying23, sizeOf, typeInfo, hi, Builtin.lenOf, Builtin.firstCells, hc, storeCells, loadCells, loadCellsFrom]
  · obtain ⟨b, off, rfl, hb, hat⟩ := hS.at_ (by omega)
    have hnews : ∀ j u, (l.map (Value.int .u8))[j]? = some u → w.cell? ((⟨b, off, none⟩ : Addr).add j) = some u := fun j z hj => by
      rw [List.getElem?_map] at hj
      cases hc : l[j]? with
      | none => rw [hc] at hj; cases hj
      | some y =>
        rw [hc] at hj; cases hj
        have hlt := (List.getElem?_eq_some_iff.1 hc).1
        have := hat j hlt
        rw [addr_add]
        simpa [List.getD_eq_getElem?_getD, hc] using this
    have h1c : ∀ u ∈ l.map (Value.int .u8), u.oneCell' = true := ints_oneCell .u8 l
    by_cases hroom : xs.length + l.length ≤ cap
    · have hsp : ∀ j, j < (l.map (Value.int .u8)).length → (w.cell? ⟨g, 0 + xs.length * i5.size + j, none⟩).isSome = true := fun j hj => by
        rw [hz1, Nat.zero_add, Nat.mul_one]
        rw [List.length_map] at hj
        exact (hm.spare (xs.length + j) (by omega) (by omega)).1
      have hr := run_append_room_cells (P := Tryz.prog) w 23 23 5 i5 Tryz.underlying23 hi g 0 xs.length cap ⟨b, off, none⟩ l.length c (l.map (Value.int .u8)) (by rw [hz1]; simp) hnews h1c hroom hsp
        (fun j hj => by
          rw [hz1, Nat.zero_add, Nat.mul_one]
          rw [List.length_map] at hj
          exact (hm.spare (xs.length + j) (by omega) (by omega)).2)
      rw [hz1, Nat.zero_add, Nat.mul_one] at hr
      refine ⟨g, cap, _, hr, ?_, hroom, ?_, .inl rfl, grown_setCells g _ _ _ _ ⟨rfl, rfl, rfl, Nat.le_refl _, fun _ _ _ => rfl⟩⟩
      · intro i hi'
        rw [Nat.zero_add]
        by_cases hlt : i < xs.length
        · rw [World.cell?_setCells_out _ _ _ _ _ (fun _ _ => .inl hlt)]
          have := hm.at_ i hlt
          rw [Nat.zero_add] at this
          rw [this]
          simp [List.getD_eq_getElem?_getD, List.getElem?_append, hlt]
        · obtain ⟨j, rfl⟩ : ∃ j, i = xs.length + j := ⟨i - xs.length, by omega⟩
          rw [List.length_append] at hi'
          have hj : j < (l.map (Value.int .u8)).length := by rw [List.length_map]; omega
          rw [World.cell?_setCells_in _ _ _ _ (fun j hj => by have := hsp j hj; rwa [hz1, Nat.zero_add, Nat.mul_one] at this) j hj]
          simp [List.getD_eq_getElem?_getD, List.getElem?_append, show j < l.length by omega]
      · have : w.heap.size ≤ (w.setCells g xs.length (l.map (Value.int .u8))).heap.size := (grown_setCells g (l.map (Value.int .u8)) xs.length w w ⟨rfl, rfl, rfl, Nat.le_refl _, fun _ _ _ => rfl⟩).size
        exact Nat.lt_of_lt_of_le hm.lt this
    · obtain ⟨v', w', hr, hown, hg⟩ := run_append_arg_grows (P := Tryz.prog) w 23 23 5 i5 (.int .u8 0) 1 1 Tryz.underlying23 hi hz0 hz1 hz2 rfl (by omega) ⟨g, 0, none⟩ xs.length cap (xs.map (Value.int .u8)) (by simp)
        (fun j u hj => by
          rw [List.getElem?_map] at hj
          cases hc : xs[j]? with
          | none => rw [hc] at hj; cases hj
          | some y =>
            rw [hc] at hj; cases hj
            have hlt := (List.getElem?_eq_some_iff.1 hc).1
            have := hm.at_ j hlt
            rw [addr_add]
            simpa [List.getD_eq_getElem?_getD, hc] using this)
        ⟨b, off, none⟩ l.length c (l.map (Value.int .u8)) (by simp) hnews (by omega) (by unfold maxLen; omega) (by omega)
      obtain ⟨g', cap', rfl, h1, h2⟩ := hown.form (by omega)
      refine ⟨g', cap', w', hr, ?_, ?_, h2, .inr h1, ⟨hg.os, hg.tape, hg.output, hg.size, fun k hk _ => hg.block k hk (by simp)⟩⟩
      · intro i hi'
        rw [Nat.zero_add, hown.cellAt i (by simpa using hi'), ← List.map_append, List.getElem?_map, List.getElem?_eq_getElem hi']
        simp [List.getD_eq_getElem?_getD, List.getElem?_eq_getElem hi']
      · obtain ⟨_, ⟨hv, _⟩ | ⟨g2, cap2, cur, hv, _, _, hnc, _⟩⟩ := hown
        · cases hv
        · simp only [Value.slice.injEq] at hv
          omega
end Go.Proofs.YtbpdielmdhhdfaaGreatDoor
/- Package object: a person's zone, a text's numbers, a message, lines. -/
namespace Go.Proofs.YtbpdielmdhhdfaaGreatDoor
open Go.RowKit
set_option linter.unusedVariables false
set_option linter.unusedSimpArgs false
/-- Two digits. -/
def two (n : Nat) : List UInt8 := [UInt8.ofNat (48 + n / 10), UInt8.ofNat (48 + n % 10)]
theorem itoa_small (i : Nat) (hi : i < 10) (w : World) : Calls Tryz.prog 72 #[.int .i64 i] w fun e w' => e = .returned (.string ⟨[UInt8.ofNat (48 + i)].toArray⟩) ∧ w' = w := by
  refine (Any.strconv_Itoa_small Tryz.lays171 i (by omega) w).mono ?_
  rintro e w' ⟨rfl, rfl⟩
  rw [Lib.decDigits_one hi]
  exact ⟨rfl, rfl⟩
set_option maxRecDepth 20000 in
theorem two_any (n : Nat) (hn : n < 100) (w : World) : Calls Tryz.prog 137 #[.int .i64 n] w fun e w' => e = .returned (.string ⟨(two n).toArray⟩) ∧ w' = w := by
  obtain ⟨a, HA⟩ : ∃ a, Hid (n / 10 = a) := ⟨_, rfl⟩
  obtain ⟨b, HB⟩ : ∃ b, Hid (n % 10 = b) := ⟨_, rfl⟩
  have ha : ((n : Int)).tdiv 10 = (a : Int) := by rw [Int.tdiv_eq_ediv_of_nonneg (by omega), ← HA.out]; omega
  have hb : ((n : Int)).tmod 10 = (b : Int) := by rw [Int.tmod_eq_emod_of_nonneg (by omega), ← HB.out]; omega
  have ha2 : (n : Int) / 10 = (a : Int) := by rw [← HA.out]; omega
  have hb2 : (n : Int) % 10 = (b : Int) := by rw [← HB.out]; omega
  have ha9 : a < 10 := by rw [← HA.out]; omega
  have hb9 : b < 10 := by rw [← HB.out]; omega
  have HE : Hid ((⟨[UInt8.ofNat (48 + a)].toArray⟩ : ByteArray) ++ ⟨[UInt8.ofNat (48 + b)].toArray⟩ = ⟨(two n).toArray⟩) := hid (by rw [str_app]; unfold two; rw [HA.out, HB.out]; rfl)
  obtain ⟨S, HS⟩ : ∃ S : ByteArray, Hid (S = ⟨[UInt8.ofNat (48 + a)].toArray⟩) := ⟨_, rfl⟩
  obtain ⟨T, HT⟩ : ∃ S : ByteArray, Hid (S = ⟨[UInt8.ofNat (48 + b)].toArray⟩) := ⟨_, rfl⟩
  have hS : S.size = 1 := by rw [HS.out]; rfl
  have hT : T.size = 1 := by rw [HT.out]; rfl
  have HI : Hid (∀ w, Calls Tryz.prog 72 #[.int .i64 a] w fun e w' => e = .returned (.string S) ∧ w' = w) := fun w => by rw [HS.out]; exact itoa_small a ha9 w
  have HJ : Hid (∀ w, Calls Tryz.prog 72 #[.int .i64 b] w fun e w' => e = .returned (.string T) ∧ w' = w) := fun w => by rw [HT.out]; exact itoa_small b hb9 w
  rw [← HS.out, ← HT.out] at HE
  go_enter Tryz.func137, Tryz.ntmps137
  go_wp2_with fail
  refine (HI.out _).mono ?_
  rintro ev w' ⟨rfl, rfl⟩
  go_wp2_with fail
  refine (HJ.out _).mono ?_
  rintro ev w' ⟨rfl, rfl⟩
  go_wp2
  go_ret
  exact ⟨(show _ = Ending.returned (.string (S ++ T)) from rfl).trans (by rw [HE.out]), rfl⟩
/-- 3.3: a zone. -/
def zoneB (z : Int) : List UInt8 := (if z < 0 then 45 else 43) :: (two (z.natAbs / 60) ++ two (z.natAbs % 60))
set_option maxRecDepth 20000 in
theorem zoneText_any (z : Int) (h1 : -840 ≤ z) (h2 : z ≤ 840) (w : World) : Calls Tryz.prog 102 #[.int .i64 z] w fun e w' => e = .returned (.string ⟨(zoneB z).toArray⟩) ∧ w' = w := by
  obtain ⟨n, HN⟩ : ∃ n, Hid (z.natAbs = n) := ⟨_, rfl⟩
  have hn : n ≤ 840 := by rw [← HN.out]; omega
  obtain ⟨a, HA⟩ : ∃ a, Hid (n / 60 = a) := ⟨_, rfl⟩
  obtain ⟨b, HB⟩ : ∃ b, Hid (n % 60 = b) := ⟨_, rfl⟩
  have ha : ((n : Int)).tdiv 60 = (a : Int) := by rw [Int.tdiv_eq_ediv_of_nonneg (by omega), ← HA.out]; omega
  have hb : ((n : Int)).tmod 60 = (b : Int) := by rw [Int.tmod_eq_emod_of_nonneg (by omega), ← HB.out]; omega
  have ha2 : (n : Int) / 60 = (a : Int) := by rw [← HA.out]; omega
  have hb2 : (n : Int) % 60 = (b : Int) := by rw [← HB.out]; omega
  have ha9 : a < 100 := by rw [← HA.out]; omega
  have hb9 : b < 100 := by rw [← HB.out]; omega
  obtain ⟨S, HS⟩ : ∃ S : ByteArray, Hid (S = ⟨(two a).toArray⟩) := ⟨_, rfl⟩
  obtain ⟨T, HT⟩ : ∃ S : ByteArray, Hid (S = ⟨(two b).toArray⟩) := ⟨_, rfl⟩
  have hS : S.size = 2 := by rw [HS.out]; rfl
  have hT : T.size = 2 := by rw [HT.out]; rfl
  have HI : Hid (∀ w, Calls Tryz.prog 137 #[.int .i64 a] w fun e w' => e = .returned (.string S) ∧ w' = w) := fun w => by rw [HS.out]; exact two_any a ha9 w
  have HJ : Hid (∀ w, Calls Tryz.prog 137 #[.int .i64 b] w fun e w' => e = .returned (.string T) ∧ w' = w) := fun w => by rw [HT.out]; exact two_any b hb9 w
  by_cases hz : z < 0
  · obtain rfl : z = -(n : Int) := by rw [← HN.out]; omega
    have HE : Hid ((⟨#[45]⟩ : ByteArray) ++ S ++ T = ⟨(zoneB (-(n : Int))).toArray⟩) := hid (by
      rw [HS.out, HT.out, show (⟨#[45]⟩ : ByteArray) = ⟨[45].toArray⟩ from rfl, str_app, str_app]
      unfold zoneB
      rw [if_pos hz, HN.out, HA.out, HB.out]
      rfl)
    have hP : ((⟨#[45]⟩ : ByteArray) ++ S).size = 3 := by rw [ByteArray.size_append, hS]; rfl
    have h45 : (⟨#[45]⟩ : ByteArray).size = 1 := rfl
    go_enter Tryz.func102, Tryz.ntmps102
    go_wp2_with fail
    refine (HI.out _).mono ?_
    rintro ev w' ⟨rfl, rfl⟩
    go_wp2_with fail
    refine (HJ.out _).mono ?_
    rintro ev w' ⟨rfl, rfl⟩
    go_wp2
    go_ret
    exact ⟨(show _ = Ending.returned (.string (⟨#[45]⟩ ++ S ++ T)) from rfl).trans (by rw [HE.out]), rfl⟩
  · obtain rfl : z = (n : Int) := by rw [← HN.out]; omega
    have HE : Hid ((⟨#[43]⟩ : ByteArray) ++ S ++ T = ⟨(zoneB (n : Int)).toArray⟩) := hid (by
      rw [HS.out, HT.out, show (⟨#[43]⟩ : ByteArray) = ⟨[43].toArray⟩ from rfl, str_app, str_app]
      unfold zoneB
      rw [if_neg hz, HN.out, HA.out, HB.out]
      rfl)
    have hP : ((⟨#[43]⟩ : ByteArray) ++ S).size = 3 := by rw [ByteArray.size_append, hS]; rfl
    have h43 : (⟨#[43]⟩ : ByteArray).size = 1 := rfl
    go_enter Tryz.func102, Tryz.ntmps102
    go_wp2_with fail
    refine (HI.out _).mono ?_
    rintro ev w' ⟨rfl, rfl⟩
    go_wp2_with fail
    refine (HJ.out _).mono ?_
    rintro ev w' ⟨rfl, rfl⟩
    go_wp2
    go_ret
    exact ⟨(show _ = Ending.returned (.string (⟨#[43]⟩ ++ S ++ T)) from rfl).trans (by rw [HE.out]), rfl⟩
theorem fmt_any (n : Nat) (hn : n ≤ 1099511627776) (w : World) (ht : Tab w) : Calls Tryz.prog 95 #[.int .i64 n, .int .i64 10] w fun e w' => e = .returned (.string ⟨(Lib.decDigits n).toArray⟩) ∧ Below w.heap.size w w' := by
  refine (Any.strconv_FormatInt_10 Tryz.laysM173 n (by omega) (by omega) w ht).mono ?_
  rintro e w' ⟨rfl, k, os, rfl⟩
  refine ⟨?_, rfl, rfl, rfl, by simp [Sort.grow], fun j hj => ?_⟩
  · rw [Lib.itoa_nonneg]
  · show (w.heap ++ os)[j]? = _
    rw [Array.getElem?_append_left hj]
theorem indexByte_ge (l : List UInt8) (c : UInt8) : -1 ≤ Lib.indexByte l c := by
  induction l with
  | nil => simp [Lib.indexByte]
  | cons b l ih =>
    unfold Lib.indexByte
    split
    · decide
    · split
      · exact Int.le_refl _
      · omega
/-- 3.3: a message: not long, no 0 in it. -/
def isMsg (s : List UInt8) : Bool := decide (s.length ≤ 2000) && decide ((0 : UInt8) ∉ s)
theorem indexByte_none (l : List UInt8) (c : UInt8) : (0 ≤ Lib.indexByte l c) ↔ c ∈ l := by
  induction l with
  | nil => simp [Lib.indexByte]
  | cons b l ih =>
    unfold Lib.indexByte
    by_cases hb : b = c
    · subst hb; simp
    · have hbc : (b == c) = false := beq_eq_false_iff_ne.2 hb
      rw [hbc]
      simp only [Bool.false_eq_true, if_false, List.mem_cons, Ne.symm hb, false_or]
      rw [← ih]
      by_cases h1 : Lib.indexByte l c = -1
      · simp [h1]
      · have h2 : (Lib.indexByte l c == -1) = false := beq_eq_false_iff_ne.2 h1
        rw [h2]
        simp only [Bool.false_eq_true, if_false]
        have := indexByte_ge l c
        omega
set_option maxRecDepth 20000 in
theorem isMessage_any (s : List UInt8) (w : World) (hs : s.length ≤ 1000000) : Calls Tryz.prog 101 #[.string ⟨s.toArray⟩] w fun e w' => e = .returned (.bool (isMsg s)) ∧ w' = w := by
  obtain ⟨S, HS⟩ : ∃ S : ByteArray, Hid (S = ⟨s.toArray⟩) := ⟨_, rfl⟩
  have hsz : S.size = s.length := by rw [HS.out]; simp [ByteArray.size]
  obtain ⟨c, HC⟩ : ∃ c : Bool, Hid (c = decide (0 ≤ Lib.indexByte s 0)) := ⟨_, rfl⟩
  have HCo : Hid (∀ w, Calls Tryz.prog 136 #[.string S, .string ⟨#[0]⟩] w fun e w' => e = .returned (.bool c) ∧ w' = w) := fun w => by
    rw [HS.out, HC.out]
    exact Any.strings_Contains_one Tryz.lays144 ⟨s.toArray⟩ 0 w
  have HM : Hid (isMsg s = (decide (s.length ≤ 2000) && !c)) := hid (by
    unfold isMsg
    rw [HC.out]
    congr 1
    rw [← decide_not]
    exact decide_eq_decide.2 (by rw [indexByte_none]))
  obtain ⟨n, HN⟩ : ∃ n, Hid (s.length = n) := ⟨_, rfl⟩
  rw [HN.out] at hsz HM
  rw [← HS.out, HM.out]
  by_cases h : n ≤ 2000
  · have hi : (S.size : Int) ≤ 2000 := by omega
    go_enter Tryz.func101, Tryz.ntmps101
    go_wp2_with (go_at_call 136; refine (HCo.out _).mono ?_; rintro ev w' ⟨rfl, rfl⟩)
    go_ret
    refine ⟨?_, rfl⟩
    rw [decide_eq_true h]
    rfl
  · have hi : ¬ (S.size : Int) ≤ 2000 := by omega
    go_enter Tryz.func101, Tryz.ntmps101
    go_wp2
    go_ret
    exact ⟨rfl, rfl⟩
end Go.Proofs.YtbpdielmdhhdfaaGreatDoor
