import Derived.Test.YtcicoeneemnbiaaGreatDoorMw05
import Derived.Laws.RangeAny
import Derived.Laws.Runes
import Derived.WalkMore
import Derived.Test.YtcicoeneemnbiaaGreatDoorMw01
import Derived.Lib.SlBytesRow
import Derived.Lib.OthersKept
import Derived.Lib.TrimUEq
import Derived.Lib.SpaceUEq
import Derived.Lib.QuoteLoop
namespace Go.Proofs.YtcicoeneemnbiaaGreatDoor
open Go.RowKit
set_option linter.unusedVariables false
set_option linter.unusedSimpArgs false
theorem iter_below (w : World) (s : ByteArray) (i : Nat) : Below w.heap.size w (w.iter s i) := (Below.refl _ w).alloc (Nat.le_refl _) _
def Asc (s : ByteArray) : Prop := ∀ j (h : j < s.size), (s[j]'h).toNat < 128
set_option maxRecDepth 20000 in
set_option maxHeartbeats 1000000 in
theorem indexRune_err (s : ByteArray) (hs : Asc s) (h8 : s.size ≤ 100) (w : World) : Calls Tryz.prog 88 #[.string s, .int .i32 65533] w fun e w' => e = .returned (.int .i64 (-1)) ∧ Below w.heap.size w w' := by
  have HS : Hid (Asc s) := hs
  clear hs
  go_enter Tryz.func88, Tryz.ntmps88
  go_wp2_with fail
  go_loopg [5, 6] s.size (fun g _ _ wx => ∃ i : Nat, i + g = s.size ∧ wx = w.iter s i)
  case atStart => exact ⟨0, by omega, rfl⟩
  case round =>
    obtain ⟨i, hig, rfl⟩ := hrel
    cases gk with
    | zero =>
      obtain rfl : i = s.size := by omega
      have hnx := fun ty => run_next_end (P := Tryz.prog) w s s.size ty (Nat.lt_irrefl _)
      go_wp2
      go_ret
      exact ⟨rfl, iter_below _ _ _⟩
    | succ g =>
      have hi : i < s.size := by omega
      obtain ⟨x, hx⟩ : ∃ x : UInt8, s[i]'hi = x := ⟨_, rfl⟩
      have hx128 : x.toNat < 128 := by rw [← hx]; exact HS.out i hi
      have hnx := fun ty => run_next_ascii (P := Tryz.prog) w s i ty hi (by rw [hx]; exact hx128)
      rw [hx] at hnx
      have hne : ¬ (x.toNat : Int) = 65533 := by omega
      have hne2 : ((x.toNat : Int) == 65533) = false := by simpa using hne
      go_wp2
      go_roundg g
      case measure => omega
      case rel => exact ⟨i + 1, by omega, rfl⟩
theorem enter209 (v1 v2 : Value) (w : World) : (callFunc 97 #[v1, v2]).run Tryz.prog w = .ok (.enter 97 #[v1, v2]) w := by kernel_rfl
theorem noByte (l : List UInt8) (c : UInt8) (h : ∀ x ∈ l, x.toNat < 128) (hc : 128 ≤ c.toNat) : Lib.indexByte l c = -1 := by
  induction l with
  | nil => rfl
  | cons b l ih =>
    have hb := h b (by simp)
    have hbc : (b == c) = false := beq_eq_false_iff_ne.2 (fun e => by rw [e] at hb; omega)
    unfold Lib.indexByte
    rw [hbc, ih (fun x hx => h x (by simp [hx]))]
    rfl
set_option maxRecDepth 1000000 in
set_option maxHeartbeats 1000000 in
theorem indexRune_high (s : ByteArray) (hs : Asc s) (h8 : s.size ≤ 100) (r : Nat) (h1 : 128 ≤ r) (hv : Utf8.valid (r : Int) = true) (hne : r ≠ 65533) (w : World) : Calls Tryz.prog 88 #[.string s, .int .i32 r] w fun e w' => e = .returned (.int .i64 (-1)) ∧ Below w.heap.size w w' := by
  have HS : Hid (Asc s) := hs
  clear hs
  have a1 : ¬ (r : Int) < 128 := by omega
  have a2 : ¬ (r : Int) = 65533 := by omega
  have a3 : ((r : Int) == 65533) = false := by simpa using a2
  have hvr : Lib.validRune (r : Int) = true := by
    unfold Utf8.valid at hv
    unfold Lib.validRune
    simp at hv ⊢
    omega
  obtain ⟨e1, e2, e3⟩ := encode_facts (r : Int) hv (by omega)
  obtain ⟨S, HS2⟩ : ∃ S : ByteArray, Utf8.encode (r : Int) = S := ⟨_, rfl⟩
  have hl3 : S.size - 1 < S.size := by rw [HS2] at e1; omega
  obtain ⟨y, hy⟩ : ∃ y : UInt8, S[S.size - 1]'hl3 = y := ⟨_, rfl⟩
  have HY : Hid (128 ≤ y.toNat) := hid (by
    rw [← hy]
    have := e3 (by rw [HS2]; exact hl3)
    subst HS2
    exact this)
  rw [HS2] at e1 e2
  clear e3
  go_enter Tryz.func88, Tryz.ntmps88
  go_wp2_with (go_at_call 98; refine (Any.utf8_ValidRune Tryz.lays119 _ _).mono ?_; rintro ev w' ⟨rfl, rfl⟩; rw [hvr])
  obtain ⟨L, HL⟩ : ∃ L : Nat, Hid (S.size - 1 = L) := ⟨_, rfl⟩
  have hLi : (S.size : Int) - 1 = (L : Int) := by have := HL.out; omega
  have hL : 1 ≤ L ∧ L ≤ 3 := by have := HL.out; omega
  go_step3
  go_wp2_with fail
  go_loopg [9, 10] 1 (fun g v u wr => g = 1 ∧ v = .int .i64 L ∧ u = .int .i64 0 ∧ wr = w')
  case atStart => exact ⟨rfl, rfl, rfl, rfl⟩
  case round =>
    obtain ⟨rfl, rfl, rfl, hwr⟩ := hrel
    have hwr' := hwr.symm
    subst hwr'
    by_cases hlt : L < s.size
    · have hlti : (L : Int) < s.size := by omega
      obtain ⟨x, hx⟩ : ∃ x : UInt8, s[L]'hlt = x := ⟨_, rfl⟩
      have hx128 : x.toNat < 128 := by rw [← hx]; exact HS.out L hlt
      have hLS : L < S.size := by have := HL.out; omega
      have hyL : S[L]'hLS = y := by have e := HL.out; subst e; exact hy
      have hxy : ¬ (x.toNat : Int) = (y.toNat : Int) := by have := HY.out; omega
      have HIB : Hid (∀ (t : ByteArray) (W : World), t = s.extract (L + 1) s.size → Calls Tryz.prog 97 #[.string t, .int .u8 (y.toNat : Int)] W fun e w' => e = .returned (.int .i64 (-1)) ∧ w' = W) := fun t W ht => by
        refine (Any.strings_IndexByte Tryz.lays137 t (y.toNat : Int) W).mono ?_
        rintro e w'' ⟨rfl, hw''⟩
        refine ⟨?_, hw''⟩
        rw [noByte]
        · intro z hz
          rw [ht] at hz
          have hz' : z ∈ s.data.toList := by
            rw [Lib.extract_data] at hz
            exact List.mem_of_mem_drop (List.mem_of_mem_take hz)
          obtain ⟨q, hq, rfl⟩ := List.getElem_of_mem hz'
          exact HS.out q (by rw [Lib.size_eq]; exact hq)
        · have := HY.out
          simpa using this
      have hxy2 : ((x.toNat : Int) != (y.toNat : Int)) = true := by simpa using hxy
      obtain ⟨T, HT⟩ : ∃ T : ByteArray, Hid (s.extract (L + 1) s.size = T) := ⟨_, rfl⟩
      obtain ⟨M, HM⟩ : ∃ M : Nat, Hid (L + 1 = M) := ⟨_, rfl⟩
      have hwr : IntKind.i64.wrap ((L : Int) + 1) = (M : Int) := by
        rw [← HM.out, show ((L : Int) + 1) = ((L + 1 : Nat) : Int) by omega]
        exact wrap_i64 (L + 1) (by omega)
      have hMi : (M : Int) ≤ s.size := by have := HM.out; omega
      have hME : s.extract M s.size = T := by rw [← HM.out]; exact HT.out
      have hL3 : L ≤ 3 := hL.2
      go_wp2
      go_step3
      go_wp2
      refine wp_region_held_drew (S := fun _ => True) (by kernel_rfl) trivial (fun hHeld => ?_)
      refine takeL (i := 0) (v := ?_) rfl (by kernel_rfl) (by kernel_rfl) (by kernel_rfl) (fun _ _ _ h => h) (Or.inl ⟨by rfl, ?_⟩) hHeld ?_
      rotate_left
      · rintro w' s0; go_simp; rfl
      try simp only [Act.put, List.setIfInBounds_toArray, List.set_cons_zero, List.set_cons_succ]
      refine takeL (i := 1) (v := ?_) rfl (by kernel_rfl) (by kernel_rfl) (by kernel_rfl) (fun _ _ _ h => h) (Or.inl ⟨by rfl, ?_⟩) hHeld ?_
      rotate_left
      · rintro w' s0; go_simp; rfl
      try simp only [Act.put, List.setIfInBounds_toArray, List.set_cons_zero, List.set_cons_succ]
      refine takeL (i := 2) (v := ?_) rfl (by kernel_rfl) (by kernel_rfl) (by kernel_rfl) (fun _ _ _ h => h) (Or.inl ⟨by rfl, ?_⟩) hHeld ?_
      rotate_left
      · rintro w' s0; go_simp; rfl
      try simp only [Act.put, List.setIfInBounds_toArray, List.set_cons_zero, List.set_cons_succ]
      refine takeL (i := 3) (v := ?_) rfl (by kernel_rfl) (by kernel_rfl) (by kernel_rfl) (fun _ _ _ h => h) (Or.inl ⟨by rfl, ?_⟩) hHeld ?_
      rotate_left
      · rintro w' s0; go_simp; rfl
      try simp only [Act.put, List.setIfInBounds_toArray, List.set_cons_zero, List.set_cons_succ]
      refine takeL (i := 4) (v := ?_) rfl (by kernel_rfl) (by kernel_rfl) (by kernel_rfl) (fun _ _ _ h => h) (Or.inl ⟨by rfl, ?_⟩) hHeld ?_
      rotate_left
      · rintro w' s0; go_simp; rfl
      try simp only [Act.put, List.setIfInBounds_toArray, List.set_cons_zero, List.set_cons_succ]
      refine takeL (i := 5) (v := ?_) rfl (by kernel_rfl) (by kernel_rfl) (by kernel_rfl) (fun _ _ _ h => h) (Or.inl ⟨by rfl, ?_⟩) hHeld ?_
      rotate_left
      · rintro w' s0; go_simp; rfl
      try simp only [Act.put, List.setIfInBounds_toArray, List.set_cons_zero, List.set_cons_succ]
      refine takeL (i := 6) (v := ?_) rfl (by kernel_rfl) (by kernel_rfl) (by kernel_rfl) (fun _ _ _ h => h) (Or.inl ⟨by rfl, ?_⟩) hHeld ?_
      rotate_left
      · rintro w' s0; go_simp; rfl
      try simp only [Act.put, List.setIfInBounds_toArray, List.set_cons_zero, List.set_cons_succ]
      refine wpAnyH_done (by kernel_rfl) ?_ _
      go_wp2
      clear hHeld
      refine wp_region_held_drew (S := fun _ => True) (by kernel_rfl) trivial (fun hHeld => ?_)
      refine takeL (i := 0) (v := ?_) rfl (by kernel_rfl) (by kernel_rfl) (by kernel_rfl) (fun _ _ _ h => h) (Or.inl ⟨by rfl, ?_⟩) hHeld ?_
      rotate_left
      · rintro w' s0; go_simp; rfl
      try simp only [Act.put, List.setIfInBounds_toArray, List.set_cons_zero, List.set_cons_succ]
      refine takeL (i := 1) (v := ?_) rfl (by kernel_rfl) (by kernel_rfl) (by kernel_rfl) (fun _ _ _ h => h) (Or.inl ⟨by rfl, ?_⟩) hHeld ?_
      rotate_left
      · rintro w' s0; go_simp; rfl
      try simp only [Act.put, List.setIfInBounds_toArray, List.set_cons_zero, List.set_cons_succ]
      refine takeL (i := 2) (v := ?_) rfl (by kernel_rfl) (by kernel_rfl) (by kernel_rfl) (fun _ _ _ h => h) (Or.inl ⟨by rfl, ?_⟩) hHeld ?_
      rotate_left
      · rintro w' s0; go_simp; rfl
      try simp only [Act.put, List.setIfInBounds_toArray, List.set_cons_zero, List.set_cons_succ]
      refine takeL (i := 3) (v := ?_) rfl (by kernel_rfl) (by kernel_rfl) (by kernel_rfl) (fun _ _ _ h => h) (Or.inl ⟨by rfl, ?_⟩) hHeld ?_
      rotate_left
      · rintro w' s0; go_simp; rfl
      try simp only [Act.put, List.setIfInBounds_toArray, List.set_cons_zero, List.set_cons_succ]
      refine takeL (i := 4) (v := ?_) rfl (by kernel_rfl) (by kernel_rfl) (by kernel_rfl) (fun _ _ _ h => h) (Or.inl ⟨by rfl, ?_⟩) hHeld ?_
      rotate_left
      · rintro w' s0; go_simp; rfl
      try simp only [Act.put, List.setIfInBounds_toArray, List.set_cons_zero, List.set_cons_succ]
      refine takeL (i := 5) (v := ?_) rfl (by kernel_rfl) (by kernel_rfl) (by kernel_rfl) (fun _ _ _ h => h) (Or.inl ⟨by rfl, ?_⟩) hHeld ?_
      rotate_left
      · rintro w' s0; go_simp; rfl
      try simp only [Act.put, List.setIfInBounds_toArray, List.set_cons_zero, List.set_cons_succ]
      refine takeL (i := 6) (v := ?_) rfl (by kernel_rfl) (by kernel_rfl) (by kernel_rfl) (fun _ _ _ h => h) (Or.inl ⟨by rfl, ?_⟩) hHeld ?_
      rotate_left
      · rintro w' s0; go_simp; rfl
      try simp only [Act.put, List.setIfInBounds_toArray, List.set_cons_zero, List.set_cons_succ]
      refine wpAnyH_ready (rs := [7]) (by kernel_rfl) (by simp) ?_
      refine consL rfl (fun KK hKK => ?_) AllReadyH.nil
      refine step_callv (by rfl) 97 [.tmp 37, .tmp 40] _ [.string T, .int .u8 (y.toNat : Int)] _ (by rfl) (by rfl) (enter209 _ _) (HIB.out _ _ HT.out.symm) ?_
      rintro e w1 ⟨rfl, rfl⟩
      refine ⟨_, rfl, ?_⟩
      refine hKK.out _ _ hHeld (fun hHeld2 => ?_)
      clear hKK KK
      try simp only [Act.put, List.setIfInBounds_toArray, List.set_cons_zero, List.set_cons_succ]
      refine takeL (i := 8) (v := ?_) rfl (by kernel_rfl) (by kernel_rfl) (by kernel_rfl) (fun _ _ _ h => h) (Or.inl ⟨by rfl, ?_⟩) hHeld ?_
      rotate_left
      · rintro w' s0; go_simp; rfl
      try simp only [Act.put, List.setIfInBounds_toArray, List.set_cons_zero, List.set_cons_succ]
      refine wpAnyH_done (by kernel_rfl) ?_ _
      go_wp2
      simp only [Exit.inBlock, Exit.then, Exit.noGoto_ret]
      go_ret
      exact ⟨rfl, ⟨rfl, rfl, rfl, Nat.le_refl _, fun _ _ => rfl⟩⟩
    · have hlti : ¬ (L : Int) < s.size := by omega
      go_wp2
      go_ret
      exact ⟨rfl, Below.refl _ _⟩
end Go.Proofs.YtcicoeneemnbiaaGreatDoor
namespace Go.Proofs.YtcicoeneemnbiaaGreatDoor
open Go.RowKit
set_option linter.unusedVariables false
set_option linter.unusedSimpArgs false
theorem byte_getD (s : ByteArray) (q : Nat) (h : q < s.size) : s.data.toList.getD q 0 = s[q]'h := by
  rw [List.getD_eq_getElem?_getD, Lib.data_getElem? s q h]
  rfl
theorem high_step (s : ByteArray) (pos : Nat) (h : pos < s.size) (ha : 128 ≤ (s[pos]'h).toNat) :
    128 ≤ (Utf8.decode s pos).1 ∧ Utf8.valid ((Utf8.decode s pos).1 : Int) = true ∧ 1 ≤ (Utf8.decode s pos).2 ∧ pos + (Utf8.decode s pos).2 ≤ s.size ∧ ∀ q, pos ≤ q → q < pos + (Utf8.decode s pos).2 → 128 ≤ (s.data.toList.getD q 0).toNat := by
  obtain ⟨h1, h2⟩ := decode_high s pos h ha
  have hN := Lib.decode_N s pos
  have hsz := Lib.size_eq s
  have hb0 : 128 ≤ (s.data.toList.getD pos 0).toNat := by rw [byte_getD s pos h]; exact ha
  have hv := Lib.decodeN_valid (s.data.toList.length - pos) (s.data.toList.getD pos 0).toNat (s.data.toList.getD (pos + 1) 0).toNat (s.data.toList.getD (pos + 2) 0).toNat (s.data.toList.getD (pos + 3) 0).toNat (UInt8.toNat_lt _)
  have hw := Lib.decodeN_width_le (s.data.toList.length - pos) (s.data.toList.getD pos 0).toNat (s.data.toList.getD (pos + 1) 0).toNat (s.data.toList.getD (pos + 2) 0).toNat (s.data.toList.getD (pos + 3) 0).toNat (by omega)
  have hc := Lib.decodeN_conts (s.data.toList.length - pos) (s.data.toList.getD pos 0).toNat (s.data.toList.getD (pos + 1) 0).toNat (s.data.toList.getD (pos + 2) 0).toNat (s.data.toList.getD (pos + 3) 0).toNat
  rw [← hN] at hv hw hc
  obtain ⟨c1, c2, c3, c4⟩ := hc
  refine ⟨h1, ?_, h2, by omega, fun q hq1 hq2 => ?_⟩
  · unfold Utf8.valid
    simp
    omega
  · have e : q = pos ∨ q = pos + 1 ∨ q = pos + 2 ∨ q = pos + 3 := by omega
    rcases e with rfl | rfl | rfl | rfl
    · exact hb0
    · have := c1 (by omega); omega
    · have := c2 (by omega); omega
    · have := c3 (by omega); omega
def No (s ch : ByteArray) (i : Nat) : Prop := ∀ q, q < i → s.data.toList.getD q 0 ∉ ch.data.toList
theorem Asc.mem {ch : ByteArray} (h : Asc ch) {x : UInt8} (hx : x ∈ ch.data.toList) : x.toNat < 128 := by
  obtain ⟨q, hq, rfl⟩ := List.getElem_of_mem hx
  exact h q (by rw [Lib.size_eq]; exact hq)
theorem iterAt_below {B : Nat} {w0 w : World} {k : Nat} {s : ByteArray} {p : Nat} (h : Below B w0 w) (hk : B ≤ k) : Below B w0 (w.iterAt k s p) :=
  ⟨h.os, h.tape, h.output, by simp [World.iterAt]; exact h.size, fun j hj => by
    show (w.heap.setIfInBounds k _)[j]? = _
    rw [Array.getElem?_setIfInBounds_ne (by omega)]
    exact h.block j hj⟩
theorem indexByte_low (l : List UInt8) (c : UInt8) : -1 ≤ Lib.indexByte l c := by
  induction l with
  | nil => simp [Lib.indexByte]
  | cons b l ih =>
    unfold Lib.indexByte
    split
    · decide
    · split
      · exact Int.le_refl _
      · omega
theorem indexByte_mem (l : List UInt8) (c : UInt8) : (0 ≤ Lib.indexByte l c) ↔ c ∈ l := by
  induction l with
  | nil => simp [Lib.indexByte]
  | cons b l ih =>
    unfold Lib.indexByte
    by_cases hb : b = c
    · subst hb; simp
    · have hbc : (b == c) = false := beq_eq_false_iff_ne.2 hb
      rw [hbc]
      simp only [Bool.false_eq_true, if_false, List.mem_cons, Ne.symm hb, false_or]
      rw [← ih]
      by_cases h1 : Lib.indexByte l c = -1
      · simp [h1]
      · have h2 : (Lib.indexByte l c == -1) = false := beq_eq_false_iff_ne.2 h1
        rw [h2]
        simp only [Bool.false_eq_true, if_false]
        have := indexByte_low l c
        omega
def hasAny (s ch : ByteArray) : Prop := ∃ x ∈ s.data.toList, x ∈ ch.data.toList
theorem no_all {s ch : ByteArray} (h : No s ch s.size) : ¬ hasAny s ch := by
  rintro ⟨x, hx, hc⟩
  obtain ⟨q, hq, rfl⟩ := List.getElem_of_mem hx
  refine h q (by rw [Lib.size_eq]; exact hq) ?_
  rw [List.getD_eq_getElem?_getD, List.getElem?_eq_getElem hq]
  exact hc
set_option maxRecDepth 20000 in
set_option maxHeartbeats 1000000 in
theorem indexAny_short (s ch : ByteArray) (h2 : 2 ≤ ch.size) (h100 : ch.size ≤ 100) (hch : Asc ch) (h8 : s.size ≤ 8) (w : World) :
    Calls Tryz.prog 73 #[.string s, .string ch] w fun e w' => (∃ i : Int, e = .returned (.int .i64 i) ∧ (0 ≤ i ↔ hasAny s ch)) ∧ Below w.heap.size w w' := by
  have HCH : Hid (Asc ch) := hch
  clear hch
  have hemp : ch.toList.isEmpty = false := by
    rw [Lib.toList_data]
    cases h : ch.data.toList with
    | nil => have := Lib.size_eq ch; rw [h, List.length_nil] at this; omega
    | cons _ _ => rfl
  have hn1 : ((ch.size : Int) == 1) = false := beq_eq_false_iff_ne.2 (by omega)
  have hn1' : ¬ (ch.size : Int) = 1 := by omega
  have h8i : ¬ (8 : Int) < (s.size : Int) := by omega
  obtain ⟨G, HG⟩ : ∃ G, Hid (w.heap.size = G) := ⟨_, rfl⟩
  go_enter Tryz.func73, Tryz.ntmps73
  go_wp2
  rw [HG.out]
  have hit0 : (w.iter s 0).heap[G]? = some (.stringIter s 0) := by rw [← HG.out]; exact World.iter_heap w s 0
  have HB0 : Hid (Below G w (w.iter s 0)) := hid (by rw [← HG.out]; exact iter_below w s 0)
  go_loopg [9, 10] s.size (fun g _ _ wx => ∃ i : Nat, i ≤ s.size ∧ g = s.size - i ∧ wx.heap[G]? = some (.stringIter s i) ∧ Hid (Below G w wx) ∧ Hid (No s ch i))
  case atStart => exact ⟨0, Nat.zero_le _, rfl, hit0, HB0, fun q hq => by omega⟩
  case round =>
    obtain ⟨i, hi, hg, hit, HB, HNo⟩ := hrel
    clear hit0
    have hGs : G < wr.heap.size := by
      rcases Nat.lt_or_ge G wr.heap.size with h | h
      · exact h
      · rw [Array.getElem?_eq_none h] at hit; cases hit
    by_cases hlt : i < s.size
    · obtain ⟨x, hx⟩ : ∃ x : UInt8, s[i]'hlt = x := ⟨_, rfl⟩
      have hxg : s.data.toList.getD i 0 = x := by rw [byte_getD s i hlt, hx]
      by_cases hx128 : x.toNat < 128
      · have hnx := fun ty => Lib.run_next_ascii_at (P := Tryz.prog) wr G s i ty hit hlt (by rw [hx]; exact hx128)
        rw [hx] at hnx
        obtain ⟨w1, HW1⟩ : ∃ w1, Hid (wr.iterAt G s (i + 1) = w1) := ⟨_, rfl⟩
        have hit1 : w1.heap[G]? = some (.stringIter s (i + 1)) := by rw [← HW1.out]; exact Lib.iterAt_heap wr G s i (i + 1) hit
        have HB1 : Hid (Below G w w1) := hid (by rw [← HW1.out]; exact iterAt_below HB.out (Nat.le_refl _))
        rw [HW1.out] at hnx
        have hback : ((x.toNat : Int)).toNat.toUInt8 = x := by simp
        have HIR : Hid (∀ W, Calls Tryz.prog 88 #[.string ch, .int .i32 (x.toNat : Int)] W fun e w' => e = .returned (.int .i64 (Lib.indexByte ch.data.toList x)) ∧ w' = W) := fun W => by
          have := Any.strings_IndexRune_ascii Tryz.lays152 ch (x.toNat : Int) W (by omega) (by omega)
          rw [hback] at this
          exact this
        obtain ⟨j, HJ⟩ : ∃ j, Hid (Lib.indexByte ch.data.toList x = j) := ⟨_, rfl⟩
        rw [HJ.out] at HIR
        have hmem : Hid (0 ≤ j ↔ x ∈ ch.data.toList) := hid (by rw [← HJ.out]; exact indexByte_mem _ _)
        clear hit hx
        by_cases hj : 0 ≤ j
        · go_wp2_with (go_at_call 88; refine (HIR.out _).mono ?_; rintro ev w' ⟨rfl, rfl⟩)
          go_ret
          refine ⟨⟨(i : Int), rfl, ⟨fun _ => ⟨x, ?_, hmem.out.1 hj⟩, fun _ => by omega⟩⟩, by rw [HG.out]; exact HB1.out⟩
          rw [← hxg, List.getD_eq_getElem?_getD, List.getElem?_eq_getElem (by rw [← Lib.size_eq]; exact hlt)]
          exact List.getElem_mem _
        · have HNo1 : Hid (No s ch (i + 1)) := fun q hq => by
            rcases Nat.lt_or_ge q i with h | h
            · exact HNo.out q h
            · obtain rfl : q = i := by omega
              rw [hxg]
              exact fun hm => hj (hmem.out.2 hm)
          go_wp2_with (go_at_call 88; refine (HIR.out _).mono ?_; rintro ev w' ⟨rfl, rfl⟩)
          go_roundg (s.size - (i + 1))
          case measure => omega
          case rel => exact ⟨i + 1, by omega, rfl, hit1, HB1, HNo1⟩
      · obtain ⟨e1, e2, e3, e4, e5⟩ := high_step s i hlt (by rw [hx]; omega)
        have hnx := fun ty => Lib.run_next_any_at (P := Tryz.prog) wr G s i ty hit hlt
        obtain ⟨rn, HRN⟩ : ∃ rn, Hid ((Utf8.decode s i).1 = rn) := ⟨_, rfl⟩
        obtain ⟨wd, HWD⟩ : ∃ wd, Hid ((Utf8.decode s i).2 = wd) := ⟨_, rfl⟩
        rw [HRN.out] at e1 e2
        rw [HWD.out] at e3 e4 e5
        rw [HRN.out, HWD.out] at hnx
        obtain ⟨w1, HW1⟩ : ∃ w1, Hid (wr.iterAt G s (i + wd) = w1) := ⟨_, rfl⟩
        have hit1 : w1.heap[G]? = some (.stringIter s (i + wd)) := by rw [← HW1.out]; exact Lib.iterAt_heap wr G s i (i + wd) hit
        have HB1 : Hid (Below G w w1) := hid (by rw [← HW1.out]; exact iterAt_below HB.out (Nat.le_refl _))
        rw [HW1.out] at hnx
        have HIR : Hid (∀ W, Calls Tryz.prog 88 #[.string ch, .int .i32 (rn : Int)] W fun e w' => e = .returned (.int .i64 (-1)) ∧ Below W.heap.size W w') := fun W => by
          by_cases h65 : rn = 65533
          · rw [h65]; exact indexRune_err ch HCH.out h100 W
          · exact indexRune_high ch HCH.out h100 rn e1 e2 h65 W
        have HNo1 : Hid (No s ch (i + wd)) := fun q hq => by
          rcases Nat.lt_or_ge q i with h | h
          · exact HNo.out q h
          · intro hm
            have := HCH.out.mem hm
            have := e5 q h hq
            omega
        have hG1 : G < w1.heap.size := by
          rcases Nat.lt_or_ge G w1.heap.size with h | h
          · exact h
          · rw [Array.getElem?_eq_none h] at hit1; cases hit1
        clear hit hx hxg e5 e2
        go_wp2_with (go_at_call 88; refine (HIR.out _).mono ?_; rintro ev w2 ⟨rfl, hb2⟩)
        have hit2 : w2.heap[G]? = some (.stringIter s (i + wd)) := (hb2.block G hG1).trans hit1
        have HB2 : Hid (Below G w w2) := HB1.out.trans (hb2.mono (Nat.le_of_lt hG1))
        go_roundg (s.size - (i + wd))
        case measure => omega
        case rel => exact ⟨i + wd, e4, rfl, hit2, HB2, HNo1⟩
    · have hnx := fun ty => Lib.run_next_end_at (P := Tryz.prog) wr G s i ty hit hlt
      obtain rfl : i = s.size := by omega
      go_wp2
      go_ret
      exact ⟨⟨-1, rfl, ⟨fun h => absurd h (by decide), fun h => absurd h (no_all HNo.out)⟩⟩, by rw [HG.out]; exact HB.out⟩
theorem info31 : (Tryz.prog.info? 154).map (fun i => (i.zero, i.size)) = some (some (.agg (Array.replicate 256 (.bool false))), 256) := by kernel_rfl
theorem indexAny_iff (s ch : List UInt8) : 0 ≤ Lib.indexAny s ch ↔ ∃ x ∈ s, x ∈ ch := by
  induction s with
  | nil => simp [Lib.indexAny]
  | cons b l ih =>
    unfold Lib.indexAny
    by_cases hb : b ∈ ch
    · rw [if_pos (by simpa using hb)]
      simp [hb]
    · rw [if_neg (by simpa using hb)]
      have hge := Lib.indexAny_ge ch l
      simp only [List.mem_cons, exists_eq_or_imp, hb, false_or]
      rw [← ih]
      by_cases h1 : Lib.indexAny l ch = -1
      · simp [h1]
      · have h2 : (Lib.indexAny l ch == -1) = false := beq_eq_false_iff_ne.2 h1
        rw [h2]
        simp only [Bool.false_eq_true, if_false]
        omega
theorem indexAny_any (s ch : ByteArray) (h2 : 2 ≤ ch.size) (h100 : ch.size ≤ 100) (hch : Asc ch) (hs : s.size ≤ 1000000) (w : World) :
    Calls Tryz.prog 73 #[.string s, .string ch] w fun e w' => (∃ i : Int, e = .returned (.int .i64 i) ∧ (0 ≤ i ↔ hasAny s ch)) ∧ Below w.heap.size w w' := by
  by_cases h8 : s.size ≤ 8
  · exact indexAny_short s ch h2 h100 hch h8 w
  · refine (Any.strings_IndexAny_long Tryz.lays153 (zero_of_info info31).1 (zero_of_info info31).2 s ch w h2 (by omega) (by omega) (by omega) (fun j b hb => hch.mem (List.mem_of_getElem? hb))).mono ?_
    rintro e w' ⟨rfl, rfl⟩
    exact ⟨⟨_, rfl, indexAny_iff _ _⟩, ((Below.refl _ w).alloc (Nat.le_refl _) _).alloc (by simp) _⟩
open Classical in
set_option maxRecDepth 20000 in
theorem containsAny_any (s ch : ByteArray) (h2 : 2 ≤ ch.size) (h100 : ch.size ≤ 100) (hch : Asc ch) (hs : s.size ≤ 1000000) (w : World) :
    Calls Tryz.prog 63 #[.string s, .string ch] w fun e w' => (∃ b : Bool, e = .returned (.bool b) ∧ (b = true ↔ hasAny s ch)) ∧ Below w.heap.size w w' := by
  have HI : Hid (Calls Tryz.prog 73 #[.string s, .string ch] w fun e w' => (∃ i : Int, e = .returned (.int .i64 i) ∧ (0 ≤ i ↔ hasAny s ch)) ∧ Below w.heap.size w w') := indexAny_any s ch h2 h100 hch hs w
  go_enter Tryz.func63, Tryz.ntmps63
  go_wp2_with fail
  refine HI.out.mono ?_
  rintro ev w1 ⟨⟨i, rfl, hi⟩, hb⟩
  have HII : Hid _ := hi
  clear hi
  go_wp2
  go_ret
  exact ⟨⟨_, rfl, by rw [← HII.out]; simp⟩, hb⟩
end Go.Proofs.YtcicoeneemnbiaaGreatDoor
namespace Go.Proofs.YtcicoeneemnbiaaGreatDoor
open Go.RowKit
set_option linter.unusedVariables false
set_option linter.unusedSimpArgs false
def BIs (P : Prop) (e : Ending) : Prop := ∃ b : Bool, e = .returned (.bool b) ∧ (b = true ↔ P)
theorem bis_false {P : Prop} (h : ¬ P) : BIs P (.returned (.bool false)) := ⟨false, rfl, ⟨(fun h => by cases h), fun h2 => absurd h2 h⟩⟩
theorem bis_true {P : Prop} (h : P) : BIs P (.returned (.bool true)) := ⟨true, rfl, ⟨fun _ => h, fun _ => rfl⟩⟩
theorem bis_or {P : Prop} {e : Ending} (h : BIs P e) : (P ∧ e = .returned (.bool true)) ∨ (¬ P ∧ e = .returned (.bool false)) := by
  obtain ⟨b, rfl, hb⟩ := h
  cases b with
  | true => exact .inl ⟨hb.1 rfl, rfl⟩
  | false => exact .inr ⟨(fun h => by have := hb.2 h; cases this), rfl⟩
def okE (s : List UInt8) : Prop := 1 ≤ s.length ∧ s.length ≤ 50 ∧ s ≠ [46] ∧ s ≠ [46, 46] ∧ s ≠ [46, 103, 105, 116] ∧ ∀ x ∈ s, x ≠ 47 ∧ x ≠ 0
theorem txt_len (l : List UInt8) : (⟨l.toArray⟩ : ByteArray).size = l.length := by simp [ByteArray.size]
def spl : List UInt8 → List (List UInt8)
  | [] => [[]]
  | c :: t => if c = 47 then [] :: spl t else match spl t with
    | [] => [[c]]
    | p :: ps => (c :: p) :: ps
theorem spl_ne : ∀ s, spl s ≠ []
  | [] => by simp [spl]
  | c :: t => by
    rw [spl]
    split
    · simp
    · split <;> simp
theorem idx_txt (s : List UInt8) (j : Nat) (w : World) (x : UInt8) (h : s[j]? = some x) : (Instr.index 9 (.string ⟨s.toArray⟩) (.int .i64 j)).run Tryz.prog w = .ok (.int .u8 (x.toNat : Int)) w := by
  obtain ⟨hj, hx⟩ := List.getElem?_eq_some_iff.1 h
  rw [run_index_string (P := Tryz.prog) w 9 ⟨s.toArray⟩ .i64 j Tryz.underlying9, dif_pos ⟨by omega, by rw [txt_len]; omega⟩]
  simp only [Int.toNat_natCast]
  rw [← hx]
  rfl
theorem ext_txt (s : List UInt8) (i j : Nat) : (⟨s.toArray⟩ : ByteArray).extract i j = ⟨((s.drop i).take (j - i)).toArray⟩ := by
  apply ByteArray.ext
  simp [ByteArray.data_extract, List.extract]
theorem slc_to (s : List UInt8) (j : Nat) (h : j ≤ s.length) (w : World) : (Instr.slice 9 (.string ⟨s.toArray⟩) none (some (.int .i64 j)) none).run Tryz.prog w = .ok (.string ⟨(s.take j).toArray⟩) w := by
  rw [run_slice_string_to_if w 9 _ .i64 j Tryz.underlying9, if_pos ⟨by omega, by rw [txt_len]; omega⟩, Int.toNat_natCast, ext_txt, List.drop_zero, Nat.sub_zero]
theorem slc_mid (s : List UInt8) (i j : Nat) (h1 : i ≤ j) (h2 : j ≤ s.length) (w : World) : (Instr.slice 9 (.string ⟨s.toArray⟩) (some (.int .i64 i)) (some (.int .i64 j)) none).run Tryz.prog w = .ok (.string ⟨((s.drop i).take (j - i)).toArray⟩) w := by
  rw [run_slice_string w 9 _ .i64 .i64 i j Tryz.underlying9 (by omega) (by omega) (by rw [txt_len]; omega), Int.toNat_natCast, Int.toNat_natCast, ext_txt]
theorem slc_from (s : List UInt8) (i : Nat) (h : i ≤ s.length) (w : World) : (Instr.slice 9 (.string ⟨s.toArray⟩) (some (.int .i64 i)) none none).run Tryz.prog w = .ok (.string ⟨(s.drop i).toArray⟩) w := by
  rw [run_slice_string_from_if w 9 _ .i64 i Tryz.underlying9, if_pos ⟨by omega, by rw [txt_len]; omega⟩, Int.toNat_natCast, ext_txt, txt_len, List.take_of_length_le (by rw [List.length_drop]; omega)]
def cur (s : List UInt8) (f i : Nat) : List UInt8 := (s.drop f).take (i - f)
theorem cur_snoc (s : List UInt8) (f i : Nat) (hf : f ≤ i) (x : UInt8) (hx : s[i]? = some x) : cur s f (i + 1) = cur s f i ++ [x] := by
  unfold cur
  rw [show i + 1 - f = (i - f) + 1 by omega, List.take_add_one, List.getElem?_drop, show f + (i - f) = i by omega, hx]
  rfl
theorem byte_num (x : UInt8) (n : Nat) (hn : n < 256) : ((x.toNat : Int) = (n : Int)) ↔ x = UInt8.ofNat n := by
  constructor
  · intro h
    have : x.toNat = n := by omega
    apply UInt8.toNat_inj.1
    rw [this]
    simp
    omega
  · rintro rfl
    simp
    omega
def tl (p t : List UInt8) : List (List UInt8) := match spl t with
  | [] => [p]
  | q :: qs => (p ++ q) :: qs
theorem tl_nil (t : List UInt8) : tl [] t = spl t := by
  unfold tl
  cases h : spl t with
  | nil => exact absurd h (spl_ne t)
  | cons q qs => simp
theorem tl_end (p : List UInt8) : tl p [] = [p] := by simp [tl, spl]
theorem tl_sep (p t : List UInt8) : tl p (47 :: t) = p :: tl [] t := by
  rw [tl_nil]
  simp [tl, spl]
theorem tl_go (p t : List UInt8) (c : UInt8) (h : c ≠ 47) : tl p (c :: t) = tl (p ++ [c]) t := by
  unfold tl
  rw [spl, if_neg h]
  cases hs : spl t with
  | nil => simp
  | cons q qs => simp
structure Pth (s : List UInt8) (f i : Nat) (dn : List (List UInt8)) : Prop where
  le : f ≤ i
  len : i ≤ s.length
  eq : spl s = dn ++ tl (cur s f i) (s.drop i)
theorem Pth.start (s : List UInt8) : Pth s 0 0 [] := ⟨Nat.le_refl _, Nat.zero_le _, by simp [cur, tl_nil]⟩
theorem Pth.go {s : List UInt8} {f i : Nat} {dn : List (List UInt8)} (h : Pth s f i dn) {x : UInt8} (hx : s[i]? = some x) (hn : x ≠ 47) : Pth s f (i + 1) dn := by
  obtain ⟨hi, hxe⟩ := List.getElem?_eq_some_iff.1 hx
  refine ⟨by have := h.le; omega, by omega, ?_⟩
  rw [h.eq, List.drop_eq_getElem_cons hi, hxe, tl_go _ _ _ hn, cur_snoc s f i h.le x hx]
theorem Pth.sep {s : List UInt8} {f i : Nat} {dn : List (List UInt8)} (h : Pth s f i dn) (hx : s[i]? = some 47) : Pth s (i + 1) (i + 1) (dn ++ [cur s f i]) := by
  obtain ⟨hi, hxe⟩ := List.getElem?_eq_some_iff.1 hx
  refine ⟨Nat.le_refl _, by omega, ?_⟩
  rw [h.eq, List.drop_eq_getElem_cons hi, hxe, tl_sep]
  simp [cur]
theorem Pth.end_ {s : List UInt8} {f i : Nat} {dn : List (List UInt8)} (h : Pth s f i dn) (hi : i = s.length) : spl s = dn ++ [cur s f i] := by
  rw [h.eq, List.drop_eq_nil_of_le (by omega), tl_end]
theorem Pth.part {s : List UInt8} {f i : Nat} {dn : List (List UInt8)} (h : Pth s f i dn) (hx : s[i]? = some 47) : cur s f i ∈ spl s := by rw [(h.sep hx).eq]; simp
def okP (s : List UInt8) : Prop := s.length ≤ 100 ∧ ∀ p ∈ spl s, okE p
end Go.Proofs.YtcicoeneemnbiaaGreatDoor
namespace Go.Proofs.YtcicoeneemnbiaaGreatDoor
open Go.RowKit
set_option linter.unusedVariables false
set_option linter.unusedSimpArgs false
theorem two_asc : Asc ⟨#[47, 0]⟩ := by
  intro j h
  have h' : j < 2 := h
  match j, h' with
  | 0, _ => exact (by decide : (47 : UInt8).toNat < 128)
  | 1, _ => exact (by decide : (0 : UInt8).toNat < 128)
theorem two_iff (s : List UInt8) : ¬ hasAny ⟨s.toArray⟩ ⟨#[47, 0]⟩ ↔ ∀ x ∈ s, x ≠ 47 ∧ x ≠ 0 := by
  unfold hasAny
  simp only [not_exists, not_and]
  constructor
  · intro h x hx
    have := h x hx
    simpa using this
  · intro h x hx
    have := h x hx
    simpa using this
set_option maxRecDepth 20000 in
theorem isEntryName_any (s : List UInt8) (w : World) : Calls Tryz.prog 45 #[.string ⟨s.toArray⟩] w fun e w' => BIs (okE s) e ∧ Below w.heap.size w w' := by
  by_cases hbad : s = [] ∨ s = [46] ∨ s = [46, 46] ∨ s = [46, 103, 105, 116]
  · have HOK : Hid (¬ okE s) := hid (by
      rintro ⟨h1, _, h3, h4, h5, _⟩
      rcases hbad with h | h | h | h
      · rw [h] at h1; exact absurd h1 (by decide)
      · exact h3 h
      · exact h4 h
      · exact h5 h)
    rcases hbad with rfl | rfl | rfl | rfl
    all_goals
      go_enter Tryz.func45, Tryz.ntmps45
      go_wp2
      go_ret
      exact ⟨bis_false HOK.out, Below.refl _ _⟩
  · obtain ⟨S, HS⟩ : ∃ S : ByteArray, Hid (S = ⟨s.toArray⟩) := ⟨_, rfl⟩
    have hsz : S.size = s.length := by rw [HS.out]; simp [ByteArray.size]
    have n0 : s ≠ [] := fun h => hbad (Or.inl h)
    have n1 : s ≠ [46] := fun h => hbad (Or.inr (Or.inl h))
    have n2 : s ≠ [46, 46] := fun h => hbad (Or.inr (Or.inr (Or.inl h)))
    have n3 : s ≠ [46, 103, 105, 116] := fun h => hbad (Or.inr (Or.inr (Or.inr h)))
    have eS : S.toList = s := by rw [HS.out, Lib.toList_data]
    have e0 : S.toList.isEmpty = false := by rw [eS]; simpa using n0
    have e1 : (S.toList == [46]) = false := by rw [eS]; simpa using n1
    have e2 : (S.toList == [46, 46]) = false := by rw [eS]; simpa using n2
    have e3 : (S.toList == [46, 103, 105, 116]) = false := by rw [eS]; simpa using n3
    clear eS
    have HCA : Hid (s.length ≤ 50 → ∀ w, Calls Tryz.prog 63 #[.string S, .string ⟨#[47, 0]⟩] w fun e w' => BIs (hasAny ⟨s.toArray⟩ ⟨#[47, 0]⟩) e ∧ Below w.heap.size w w') := fun h50 w => by
      rw [HS.out]
      refine (containsAny_any ⟨s.toArray⟩ ⟨#[47, 0]⟩ (by decide) (by decide) two_asc (by simp [ByteArray.size]; omega) w).mono ?_
      rintro e w' ⟨⟨b, rfl, hb⟩, h2⟩
      exact ⟨⟨b, rfl, hb⟩, h2⟩
    have HL : Hid (1 ≤ s.length) := hid (by
      rcases s with _ | ⟨x, s⟩
      · exact absurd rfl n0
      · simp)
    have HN : Hid (s ≠ [46] ∧ s ≠ [46, 46] ∧ s ≠ [46, 103, 105, 116]) := ⟨n1, n2, n3⟩
    rw [← HS.out]
    clear n0 n1 n2 n3 hbad
    by_cases h : s.length ≤ 50
    · have hi : (s.length : Int) ≤ 50 := by omega
      have h60 : Hid (s.length ≤ 50) := h
      clear h
      go_enter Tryz.func45, Tryz.ntmps45
      go_wp2_with fail
      refine (HCA.out h60.out _).mono ?_
      rintro ev w1 ⟨hbi, hb1⟩
      rcases bis_or hbi with ⟨hy, rfl⟩ | ⟨hn, rfl⟩
      · have HOK : Hid (¬ okE s) := fun h2 => absurd hy ((two_iff s).2 h2.2.2.2.2.2)
        clear hy hbi
        go_wp2
        go_ret
        exact ⟨bis_false HOK.out, hb1⟩
      · have HOK : Hid (okE s) := ⟨HL.out, h60.out, HN.out.1, HN.out.2.1, HN.out.2.2, (two_iff s).1 hn⟩
        clear hn hbi
        go_wp2
        go_ret
        exact ⟨bis_true HOK.out, hb1⟩
    · have hi : ¬ (s.length : Int) ≤ 50 := by omega
      have HOK : Hid (¬ okE s) := fun h2 => h h2.2.1
      clear h
      go_enter Tryz.func45, Tryz.ntmps45
      go_wp2
      go_ret
      exact ⟨bis_false HOK.out, Below.refl _ _⟩
theorem index_txt (s : List UInt8) (j : Nat) (w : World) (x : UInt8) (h : s[j]? = some x) : (Instr.index 9 (.string ⟨s.toArray⟩) (.int .i64 j)).run Tryz.prog w = .ok (.int .u8 (x.toNat : Int)) w := by
  obtain ⟨hj, hx⟩ := List.getElem?_eq_some_iff.1 h
  have hsz : (⟨s.toArray⟩ : ByteArray).size = s.length := by simp [ByteArray.size]
  rw [run_index_string (P := Tryz.prog) w 9 ⟨s.toArray⟩ .i64 j Tryz.underlying9, dif_pos ⟨by omega, by rw [hsz]; omega⟩]
  simp only [Int.toNat_natCast]
  rw [← hx]
  rfl
theorem take_snoc8 (s : List UInt8) (j : Nat) (x : UInt8) (h : s[j]? = some x) : s.take (j + 1) = s.take j ++ [x] := by
  rw [List.take_add_one, h]
  rfl
def badE (c : Int) : Prop := c = 0 ∨ c = 47
theorem badE_iff (x : UInt8) : ¬ badE (x.toNat : Int) ↔ (x ≠ 47 ∧ x ≠ 0) := by
  unfold badE
  constructor
  · intro h
    exact ⟨fun e => h (by rw [e]; right; rfl), fun e => h (by rw [e]; left; rfl)⟩
  · rintro ⟨h1, h2⟩ (h | h)
    · exact h2 (UInt8.toNat_inj.1 (by simpa using h))
    · exact h1 (UInt8.toNat_inj.1 (by show x.toNat = 47; omega))
set_option maxRecDepth 20000 in
theorem isName_any (s : List UInt8) (w : World) : Calls Tryz.prog 55 #[.string ⟨s.toArray⟩] w fun e w' => BIs (okE s) e ∧ w' = w := by
  by_cases hbad : s = [] ∨ s = [46] ∨ s = [46, 46] ∨ s = [46, 103, 105, 116]
  · have HOK : Hid (¬ okE s) := hid (by
      rintro ⟨h1, _, h3, h4, h5, _⟩
      rcases hbad with h | h | h | h
      · rw [h] at h1; exact absurd h1 (by decide)
      · exact h3 h
      · exact h4 h
      · exact h5 h)
    rcases hbad with rfl | rfl | rfl | rfl
    all_goals
      go_enter Tryz.func55, Tryz.ntmps55
      go_wp2
      go_ret
      exact ⟨bis_false HOK.out, rfl⟩
  · obtain ⟨S, HS⟩ : ∃ S : ByteArray, Hid (S = ⟨s.toArray⟩) := ⟨_, rfl⟩
    obtain ⟨n, HN⟩ : ∃ n, Hid (s.length = n) := ⟨_, rfl⟩
    have hsz : S.size = n := by rw [HS.out, ← HN.out]; simp [ByteArray.size]
    have n0 : s ≠ [] := fun h => hbad (Or.inl h)
    have n1 : s ≠ [46] := fun h => hbad (Or.inr (Or.inl h))
    have n2 : s ≠ [46, 46] := fun h => hbad (Or.inr (Or.inr (Or.inl h)))
    have n3 : s ≠ [46, 103, 105, 116] := fun h => hbad (Or.inr (Or.inr (Or.inr h)))
    have eS : S.toList = s := by rw [HS.out, Lib.toList_data]
    have e1 : (S.toList == [46]) = false := by rw [eS]; simpa using n1
    have e2 : (S.toList == [46, 46]) = false := by rw [eS]; simpa using n2
    have e3 : (S.toList == [46, 103, 105, 116]) = false := by rw [eS]; simpa using n3
    clear eS
    have hn1 : 1 ≤ n := by
      rw [← HN.out]
      rcases s with _ | ⟨x, s⟩
      · exact absurd rfl n0
      · simp
    have HQ : Hid (s ≠ [46] ∧ s ≠ [46, 46] ∧ s ≠ [46, 103, 105, 116]) := ⟨n1, n2, n3⟩
    have hi1 : ¬ (n : Int) < 1 := by omega
    rw [← HS.out]
    clear n0 n1 n2 n3 hbad
    by_cases h : n ≤ 50
    · have hi : ¬ (50 : Int) < (n : Int) := by omega
      go_enter Tryz.func55, Tryz.ntmps55
      go_wp2
      go_loopg [3] n (fun g i wr => ∃ j : Nat, j ≤ n ∧ g = n - j ∧ i = .int .i64 j ∧ Hid (∀ x ∈ s.take j, ¬ badE (x.toNat : Int)) ∧ Hid (wr = w))
      case atStart => exact ⟨0, by omega, rfl, rfl, hid (by simp), hid rfl⟩
      case round =>
        obtain ⟨j, hj, hk, rfl, HT, HW⟩ := hrel
        by_cases hlt : j < n
        · have hlti : (j : Int) < (n : Int) := by omega
          obtain ⟨x, hx⟩ : ∃ x, s[j]? = some x := ⟨_, List.getElem?_eq_getElem (by rw [HN.out]; exact hlt)⟩
          obtain ⟨c, HC⟩ : ∃ c, Hid ((x.toNat : Int) = c) := ⟨_, rfl⟩
          have HX : Hid (s[j]? = some x) := hx
          have hix : ∀ w1 : World, (Instr.index 9 (.string S) (.int .i64 j)).run Tryz.prog w1 = .ok (.int .u8 c) w1 := fun w1 => by rw [HS.out, ← HC.out]; exact index_txt s j w1 x HX.out
          clear hx
          by_cases hc : badE c
          · have HM : Hid (¬ okE s) := fun ht => (badE_iff x).2 (ht.2.2.2.2.2 x (List.mem_of_getElem? HX.out)) (by rw [HC.out]; exact hc)
            clear HC
            rcases hc with rfl | rfl
            all_goals
              go_wp2
              go_ret
              exact ⟨bis_false HM.out, HW.out⟩
          · have HBD : Hid (¬ badE c) := hc
            have b1 : (c == 0) = false := by simp; exact fun e => hc (.inl e)
            have b2 : (c == 47) = false := by simp; exact fun e => hc (.inr e)
            clear hc
            go_wp2
            go_roundg (n - (j + 1))
            case measure => omega
            case rel =>
              refine ⟨j + 1, by omega, rfl, by go_num, hid ?_, HW⟩
              rw [take_snoc8 s j x HX.out]
              intro y hy
              rcases List.mem_append.1 hy with hy | hy
              · exact HT.out y hy
              · have : y = x := by simpa using hy
                subst this
                rw [HC.out]
                exact HBD.out
        · have hlti : ¬ (j : Int) < (n : Int) := by omega
          have HOK : Hid (okE s) := hid (by
            have h1 := HT.out
            rw [List.take_of_length_le (by rw [HN.out]; omega)] at h1
            exact ⟨by rw [HN.out]; exact hn1, by rw [HN.out]; exact h, HQ.out.1, HQ.out.2.1, HQ.out.2.2, fun x hx => (badE_iff x).1 (h1 x hx)⟩)
          go_wp2
          go_ret
          exact ⟨bis_true HOK.out, HW.out⟩
    · have hi : (50 : Int) < (n : Int) := by omega
      have HOK : Hid (¬ okE s) := fun h2 => h (by rw [← HN.out]; exact h2.2.1)
      clear h
      go_enter Tryz.func55, Tryz.ntmps55
      go_wp2
      go_ret
      exact ⟨bis_false HOK.out, rfl⟩
end Go.Proofs.YtcicoeneemnbiaaGreatDoor
