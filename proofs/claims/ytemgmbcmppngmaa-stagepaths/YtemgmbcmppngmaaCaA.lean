/- strings.IndexRune at a rune that is no ASCII, in a text that is all ASCII: -1. -/
import Derived.Test.YtemgmbcmppngmaaPaS
import Derived.Laws.RangeAny
import Derived.Laws.Runes
import Derived.WalkMore
import Derived.Test.YtemgmbcmppngmaaLst
import Derived.Lib.SlBytesRow
namespace Go.Proofs.Ytemgmbcmppngmaa
open Go.RowKit
set_option linter.unusedVariables false
set_option linter.unusedSimpArgs false
theorem wrap_i64 (n : Nat) (h : n < 9223372036854775808) : IntKind.i64.wrap (n : Int) = n := by
  rw [IntKind.wrap_i64]; omega
theorem iter_below (w : World) (s : ByteArray) (i : Nat) : Below w.heap.size w (w.iter s i) := (Below.refl _ w).alloc (Nat.le_refl _) _
/-- All ASCII. -/
def Asc (s : ByteArray) : Prop := ∀ j (h : j < s.size), (s[j]'h).toNat < 128
set_option maxRecDepth 20000 in
set_option maxHeartbeats 1000000 in
theorem indexRune_err (s : ByteArray) (hs : Asc s) (h8 : s.size ≤ 100) (w : World) : Calls Try.prog 12 #[.string s, .int .i32 65533] w fun e w' => e = .returned (.int .i64 (-1)) ∧ Below w.heap.size w w' := by
  have HS : Hid (Asc s) := hs
  clear hs
  go_enter Try.func12, Try.ntmps12
  go_wp2_with fail
  go_loopg [5, 6] s.size (fun g _ _ wx => ∃ i : Nat, i + g = s.size ∧ wx = w.iter s i)
  case atStart => exact ⟨0, by omega, rfl⟩
  case round =>
    obtain ⟨i, hig, rfl⟩ := hrel
    cases gk with
    | zero =>
      obtain rfl : i = s.size := by omega
      have hnx := fun ty => run_next_end (P := Try.prog) w s s.size ty (Nat.lt_irrefl _)
      go_wp2
      go_ret
      exact ⟨rfl, iter_below _ _ _⟩
    | succ g =>
      have hi : i < s.size := by omega
      obtain ⟨x, hx⟩ : ∃ x : UInt8, s[i]'hi = x := ⟨_, rfl⟩
      have hx128 : x.toNat < 128 := by rw [← hx]; exact HS.out i hi
      have hnx := fun ty => run_next_ascii (P := Try.prog) w s i ty hi (by rw [hx]; exact hx128)
      rw [hx] at hnx
      have hne : ¬ (x.toNat : Int) = 65533 := by omega
      have hne2 : ((x.toNat : Int) == 65533) = false := by simpa using hne
      go_wp2
      go_roundg g
      case measure => omega
      case rel => exact ⟨i + 1, by omega, rfl⟩
theorem enter209 (v1 v2 : Value) (w : World) : (callFunc 16 #[v1, v2]).run Try.prog w = .ok (.enter 16 #[v1, v2]) w := by kernel_rfl
theorem noByte (l : List UInt8) (c : UInt8) (h : ∀ x ∈ l, x.toNat < 128) (hc : 128 ≤ c.toNat) : Lib.indexByte l c = -1 := by
  induction l with
  | nil => rfl
  | cons b l ih =>
    have hb := h b (by simp)
    have hbc : (b == c) = false := beq_eq_false_iff_ne.2 (fun e => by rw [e] at hb; omega)
    unfold Lib.indexByte
    rw [hbc, ih (fun x hx => h x (by simp [hx]))]
    rfl
set_option maxRecDepth 1000000 in
set_option maxHeartbeats 1000000 in
theorem indexRune_high (s : ByteArray) (hs : Asc s) (h8 : s.size ≤ 100) (r : Nat) (h1 : 128 ≤ r) (hv : Utf8.valid (r : Int) = true) (hne : r ≠ 65533) (w : World) : Calls Try.prog 12 #[.string s, .int .i32 r] w fun e w' => e = .returned (.int .i64 (-1)) ∧ Below w.heap.size w w' := by
  have HS : Hid (Asc s) := hs
  clear hs
  have a1 : ¬ (r : Int) < 128 := by omega
  have a2 : ¬ (r : Int) = 65533 := by omega
  have a3 : ((r : Int) == 65533) = false := by simpa using a2
  have hvr : Lib.validRune (r : Int) = true := by
    unfold Utf8.valid at hv
    unfold Lib.validRune
    simp at hv ⊢
    omega
  obtain ⟨e1, e2, e3⟩ := encode_facts (r : Int) hv (by omega)
  obtain ⟨S, HS2⟩ : ∃ S : ByteArray, Utf8.encode (r : Int) = S := ⟨_, rfl⟩
  have hl3 : S.size - 1 < S.size := by rw [HS2] at e1; omega
  obtain ⟨y, hy⟩ : ∃ y : UInt8, S[S.size - 1]'hl3 = y := ⟨_, rfl⟩
  have HY : Hid (128 ≤ y.toNat) := hid (by
    rw [← hy]
    have := e3 (by rw [HS2]; exact hl3)
    subst HS2
    exact this)
  rw [HS2] at e1 e2
  clear e3
  go_enter Try.func12, Try.ntmps12
  go_wp2_with (go_at_call 17; refine (Any.utf8_ValidRune Try.lays119 _ _).mono ?_; rintro ev w' ⟨rfl, rfl⟩; rw [hvr])
  obtain ⟨L, HL⟩ : ∃ L : Nat, Hid (S.size - 1 = L) := ⟨_, rfl⟩
  have hLi : (S.size : Int) - 1 = (L : Int) := by have := HL.out; omega
  have hL : 1 ≤ L ∧ L ≤ 3 := by have := HL.out; omega
  go_step3
  go_wp2_with fail
  go_loopg [9, 10] 1 (fun g v u wr => g = 1 ∧ v = .int .i64 L ∧ u = .int .i64 0 ∧ wr = w')
  case atStart => exact ⟨rfl, rfl, rfl, rfl⟩
  case round =>
    obtain ⟨rfl, rfl, rfl, hwr⟩ := hrel
    have hwr' := hwr.symm
    subst hwr'
    by_cases hlt : L < s.size
    · have hlti : (L : Int) < s.size := by omega
      obtain ⟨x, hx⟩ : ∃ x : UInt8, s[L]'hlt = x := ⟨_, rfl⟩
      have hx128 : x.toNat < 128 := by rw [← hx]; exact HS.out L hlt
      have hLS : L < S.size := by have := HL.out; omega
      have hyL : S[L]'hLS = y := by have e := HL.out; subst e; exact hy
      have hxy : ¬ (x.toNat : Int) = (y.toNat : Int) := by have := HY.out; omega
      have HIB : Hid (∀ (t : ByteArray) (W : World), t = s.extract (L + 1) s.size → Calls Try.prog 16 #[.string t, .int .u8 (y.toNat : Int)] W fun e w' => e = .returned (.int .i64 (-1)) ∧ w' = W) := fun t W ht => by
        refine (Any.strings_IndexByte Try.lays137 t (y.toNat : Int) W).mono ?_
        rintro e w'' ⟨rfl, hw''⟩
        refine ⟨?_, hw''⟩
        rw [noByte]
        · intro z hz
          rw [ht] at hz
          have hz' : z ∈ s.data.toList := by
            rw [Lib.extract_data] at hz
            exact List.mem_of_mem_drop (List.mem_of_mem_take hz)
          obtain ⟨q, hq, rfl⟩ := List.getElem_of_mem hz'
          exact HS.out q (by rw [Lib.size_eq]; exact hq)
        · have := HY.out
          simpa using this
      have hxy2 : ((x.toNat : Int) != (y.toNat : Int)) = true := by simpa using hxy
      obtain ⟨T, HT⟩ : ∃ T : ByteArray, Hid (s.extract (L + 1) s.size = T) := ⟨_, rfl⟩
      obtain ⟨M, HM⟩ : ∃ M : Nat, Hid (L + 1 = M) := ⟨_, rfl⟩
      have hwr : IntKind.i64.wrap ((L : Int) + 1) = (M : Int) := by
        rw [← HM.out, show ((L : Int) + 1) = ((L + 1 : Nat) : Int) by omega]
        exact wrap_i64 (L + 1) (by omega)
      have hMi : (M : Int) ≤ s.size := by have := HM.out; omega
      have hME : s.extract M s.size = T := by rw [← HM.out]; exact HT.out
      have hL3 : L ≤ 3 := hL.2
      go_wp2
      go_step3
      go_wp2
      refine wp_region_held_drew (S := fun _ => True) (by kernel_rfl) trivial (fun hHeld => ?_)
      refine takeL (i := 0) (v := ?_) rfl (by kernel_rfl) (by kernel_rfl) (by kernel_rfl) (fun _ _ _ h => h) (Or.inl ⟨by rfl, ?_⟩) hHeld ?_
      rotate_left
      · rintro w' s0; go_simp; rfl
      try simp only [Act.put, List.setIfInBounds_toArray, List.set_cons_zero, List.set_cons_succ]
      refine takeL (i := 1) (v := ?_) rfl (by kernel_rfl) (by kernel_rfl) (by kernel_rfl) (fun _ _ _ h => h) (Or.inl ⟨by rfl, ?_⟩) hHeld ?_
      rotate_left
      · rintro w' s0; go_simp; rfl
      try simp only [Act.put, List.setIfInBounds_toArray, List.set_cons_zero, List.set_cons_succ]
      refine takeL (i := 2) (v := ?_) rfl (by kernel_rfl) (by kernel_rfl) (by kernel_rfl) (fun _ _ _ h => h) (Or.inl ⟨by rfl, ?_⟩) hHeld ?_
      rotate_left
      · rintro w' s0; go_simp; rfl
      try simp only [Act.put, List.setIfInBounds_toArray, List.set_cons_zero, List.set_cons_succ]
      refine takeL (i := 3) (v := ?_) rfl (by kernel_rfl) (by kernel_rfl) (by kernel_rfl) (fun _ _ _ h => h) (Or.inl ⟨by rfl, ?_⟩) hHeld ?_
      rotate_left
      · rintro w' s0; go_simp; rfl
      try simp only [Act.put, List.setIfInBounds_toArray, List.set_cons_zero, List.set_cons_succ]
      refine takeL (i := 4) (v := ?_) rfl (by kernel_rfl) (by kernel_rfl) (by kernel_rfl) (fun _ _ _ h => h) (Or.inl ⟨by rfl, ?_⟩) hHeld ?_
      rotate_left
      · rintro w' s0; go_simp; rfl
      try simp only [Act.put, List.setIfInBounds_toArray, List.set_cons_zero, List.set_cons_succ]
      refine takeL (i := 5) (v := ?_) rfl (by kernel_rfl) (by kernel_rfl) (by kernel_rfl) (fun _ _ _ h => h) (Or.inl ⟨by rfl, ?_⟩) hHeld ?_
      rotate_left
      · rintro w' s0; go_simp; rfl
      try simp only [Act.put, List.setIfInBounds_toArray, List.set_cons_zero, List.set_cons_succ]
      refine takeL (i := 6) (v := ?_) rfl (by kernel_rfl) (by kernel_rfl) (by kernel_rfl) (fun _ _ _ h => h) (Or.inl ⟨by rfl, ?_⟩) hHeld ?_
      rotate_left
      · rintro w' s0; go_simp; rfl
      try simp only [Act.put, List.setIfInBounds_toArray, List.set_cons_zero, List.set_cons_succ]
      refine wpAnyH_done (by kernel_rfl) ?_ _
      go_wp2
      clear hHeld
      refine wp_region_held_drew (S := fun _ => True) (by kernel_rfl) trivial (fun hHeld => ?_)
      refine takeL (i := 0) (v := ?_) rfl (by kernel_rfl) (by kernel_rfl) (by kernel_rfl) (fun _ _ _ h => h) (Or.inl ⟨by rfl, ?_⟩) hHeld ?_
      rotate_left
      · rintro w' s0; go_simp; rfl
      try simp only [Act.put, List.setIfInBounds_toArray, List.set_cons_zero, List.set_cons_succ]
      refine takeL (i := 1) (v := ?_) rfl (by kernel_rfl) (by kernel_rfl) (by kernel_rfl) (fun _ _ _ h => h) (Or.inl ⟨by rfl, ?_⟩) hHeld ?_
      rotate_left
      · rintro w' s0; go_simp; rfl
      try simp only [Act.put, List.setIfInBounds_toArray, List.set_cons_zero, List.set_cons_succ]
      refine takeL (i := 2) (v := ?_) rfl (by kernel_rfl) (by kernel_rfl) (by kernel_rfl) (fun _ _ _ h => h) (Or.inl ⟨by rfl, ?_⟩) hHeld ?_
      rotate_left
      · rintro w' s0; go_simp; rfl
      try simp only [Act.put, List.setIfInBounds_toArray, List.set_cons_zero, List.set_cons_succ]
      refine takeL (i := 3) (v := ?_) rfl (by kernel_rfl) (by kernel_rfl) (by kernel_rfl) (fun _ _ _ h => h) (Or.inl ⟨by rfl, ?_⟩) hHeld ?_
      rotate_left
      · rintro w' s0; go_simp; rfl
      try simp only [Act.put, List.setIfInBounds_toArray, List.set_cons_zero, List.set_cons_succ]
      refine takeL (i := 4) (v := ?_) rfl (by kernel_rfl) (by kernel_rfl) (by kernel_rfl) (fun _ _ _ h => h) (Or.inl ⟨by rfl, ?_⟩) hHeld ?_
      rotate_left
      · rintro w' s0; go_simp; rfl
      try simp only [Act.put, List.setIfInBounds_toArray, List.set_cons_zero, List.set_cons_succ]
      refine takeL (i := 5) (v := ?_) rfl (by kernel_rfl) (by kernel_rfl) (by kernel_rfl) (fun _ _ _ h => h) (Or.inl ⟨by rfl, ?_⟩) hHeld ?_
      rotate_left
      · rintro w' s0; go_simp; rfl
      try simp only [Act.put, List.setIfInBounds_toArray, List.set_cons_zero, List.set_cons_succ]
      refine takeL (i := 6) (v := ?_) rfl (by kernel_rfl) (by kernel_rfl) (by kernel_rfl) (fun _ _ _ h => h) (Or.inl ⟨by rfl, ?_⟩) hHeld ?_
      rotate_left
      · rintro w' s0; go_simp; rfl
      try simp only [Act.put, List.setIfInBounds_toArray, List.set_cons_zero, List.set_cons_succ]
      refine wpAnyH_ready (rs := [7]) (by kernel_rfl) (by simp) ?_
      refine consL rfl (fun KK hKK => ?_) AllReadyH.nil
      refine step_callv (by rfl) 16 [.tmp 37, .tmp 40] _ [.string T, .int .u8 (y.toNat : Int)] _ (by rfl) (by rfl) (enter209 _ _) (HIB.out _ _ HT.out.symm) ?_
      rintro e w1 ⟨rfl, rfl⟩
      refine ⟨_, rfl, ?_⟩
      refine hKK.out _ _ hHeld (fun hHeld2 => ?_)
      clear hKK KK
      try simp only [Act.put, List.setIfInBounds_toArray, List.set_cons_zero, List.set_cons_succ]
      refine takeL (i := 8) (v := ?_) rfl (by kernel_rfl) (by kernel_rfl) (by kernel_rfl) (fun _ _ _ h => h) (Or.inl ⟨by rfl, ?_⟩) hHeld ?_
      rotate_left
      · rintro w' s0; go_simp; rfl
      try simp only [Act.put, List.setIfInBounds_toArray, List.set_cons_zero, List.set_cons_succ]
      refine wpAnyH_done (by kernel_rfl) ?_ _
      go_wp2
      simp only [Exit.inBlock, Exit.then, Exit.noGoto_ret]
      go_ret
      exact ⟨rfl, ⟨rfl, rfl, rfl, Nat.le_refl _, fun _ _ => rfl⟩⟩
    · have hlti : ¬ (L : Int) < s.size := by omega
      go_wp2
      go_ret
      exact ⟨rfl, Below.refl _ _⟩
end Go.Proofs.Ytemgmbcmppngmaa
