/- 'bytes.Equal', 'choose', 'bytes.HasSuffix'; the document's 'ended', 'piece'. -/
import Derived.Test.YtakddciegnkpdaaDfS
import Derived.Test.YtakddciegnkpdaaMgP
namespace Go.Proofs.Ytakddciegnkpdaa
open Go.RowKit
set_option linter.unusedVariables false
set_option linter.unusedSimpArgs false
theorem equal_any {w : World} (a : Option Addr) (ca : Nat) (s : Str) (hA : PB w a ca s) (b : Option Addr) (cb : Nat) (t : Str) (hB : PB w b cb t) :
    Calls Try.prog 13 #[.slice a s.length ca, .slice b t.length cb] w fun e w' => e = .returned (.bool (s == t)) ∧ w' = w := by
  obtain ⟨n, HN⟩ : ∃ n, Hid (s.length = n) := ⟨_, rfl⟩
  obtain ⟨m, HM⟩ : ∃ n, Hid (t.length = n) := ⟨_, rfl⟩
  have h1 : (convert 22 9 (.slice a n ca)).run Try.prog w = .ok (sV s) w := by rw [← HN.out]; exact conv_str hA
  have h2 : (convert 22 9 (.slice b m cb)).run Try.prog w = .ok (sV t) w := by rw [← HM.out]; exact conv_str hB
  unfold sV at h1 h2
  rw [HN.out, HM.out]
  clear hA hB
  go_enter Try.func13, Try.ntmps13
  go_wp2
  go_ret
  exact ⟨rfl, rfl⟩
/-- What 'choose' answers. -/
def PostCh (a1 : Option Addr) (c1 : Nat) (a2 : Option Addr) (c2 : Nat) (o x y : Str) (w : World) (e : Ending) (w' : World) : Prop :=
  Below w.heap.size w w' ∧ ((x = y ∨ y = o) ∧ e = .returned (.tuple #[.slice a1 x.length c1, .bool true]) ∨ ¬ (x = y ∨ y = o) ∧ x = o ∧ e = .returned (.tuple #[.slice a2 y.length c2, .bool true]) ∨ ¬ (x = y ∨ y = o) ∧ x ≠ o ∧ e = .returned (.tuple #[.slice none 0 0, .bool false]))
theorem beq_t {s t : Str} (h : s = t) : (s == t) = true := by simp [h]
theorem beq_f {s t : Str} (h : ¬ s = t) : (s == t) = false := by simp [h]
set_option maxRecDepth 20000 in
theorem choose_any {w : World} (a0 : Option Addr) (c0 : Nat) (o : Str) (h0 : PB w a0 c0 o) (a1 : Option Addr) (c1 : Nat) (x : Str) (h1 : PB w a1 c1 x) (a2 : Option Addr) (c2 : Nat) (y : Str) (h2 : PB w a2 c2 y) :
    Calls Try.prog 12 #[.agg #[.slice a0 o.length c0, .slice a1 x.length c1, .slice a2 y.length c2], .func (.func 13) #[] #[]] w (PostCh a1 c1 a2 c2 o x y w) := by
  obtain ⟨n0, HN0⟩ : ∃ n, Hid (o.length = n) := ⟨_, rfl⟩
  obtain ⟨n1, HN1⟩ : ∃ n, Hid (x.length = n) := ⟨_, rfl⟩
  obtain ⟨n2, HN2⟩ : ∃ n, Hid (y.length = n) := ⟨_, rfl⟩
  obtain ⟨u, HU⟩ : ∃ u, Hid (w.alloc (.cells #[.slice a0 n0 c0, .slice a1 n1 c1, .slice a2 n2 c2] 31) = u) := ⟨_, rfl⟩
  have hb : Below w.heap.size w u := by rw [← HU.out]; exact (Below.refl _ w).alloc (Nat.le_refl _) _
  have HB : Hid (Below w.heap.size w u) := hb
  have C12 : Hid (Calls Try.prog 13 #[.slice a1 n1 c1, .slice a2 n2 c2] u fun e w' => e = .returned (.bool (x == y)) ∧ w' = u) := hid (by rw [← HN1.out, ← HN2.out]; exact equal_any a1 c1 x (h1.below hb) a2 c2 y (h2.below hb))
  have C20 : Hid (Calls Try.prog 13 #[.slice a2 n2 c2, .slice a0 n0 c0] u fun e w' => e = .returned (.bool (y == o)) ∧ w' = u) := hid (by rw [← HN2.out, ← HN0.out]; exact equal_any a2 c2 y (h2.below hb) a0 c0 o (h0.below hb))
  have C10 : Hid (Calls Try.prog 13 #[.slice a1 n1 c1, .slice a0 n0 c0] u fun e w' => e = .returned (.bool (x == o)) ∧ w' = u) := hid (by rw [← HN1.out, ← HN0.out]; exact equal_any a1 c1 x (h1.below hb) a0 c0 o (h0.below hb))
  have k0 : u.cell? ⟨w.heap.size, 0, none⟩ = some (.slice a0 n0 c0) := by rw [← HU.out]; exact cell_of_row _ _ 0 _ 31 (0, 0) (heap_alloc_new w _)
  have k1 : u.cell? ⟨w.heap.size, 1, none⟩ = some (.slice a1 n1 c1) := by rw [← HU.out]; exact cell_of_row _ _ 1 _ 31 (0, 0) (heap_alloc_new w _)
  have k2 : u.cell? ⟨w.heap.size, 2, none⟩ = some (.slice a2 n2 c2) := by rw [← HU.out]; exact cell_of_row _ _ 2 _ 31 (0, 0) (heap_alloc_new w _)
  unfold PostCh
  rw [HN0.out, HN1.out, HN2.out]
  clear h0 h1 h2 hb
  go_enter Try.func12, Try.ntmps12
  go_wp2_with fail
  rw [HU.out]
  refine C12.out.mono ?_
  rintro e w1 ⟨rfl, rfl⟩
  by_cases hxy : x = y
  · have hq := beq_t hxy
    have HX : Hid (x = y) := hxy
    clear hxy
    go_wp2
    go_ret2
    exact ⟨HB.out, .inl ⟨.inl HX.out, rfl⟩⟩
  · have hq := beq_f hxy
    have HX : Hid (¬ x = y) := hxy
    clear hxy
    go_wp2_with fail
    refine C20.out.mono ?_
    rintro e w2 ⟨rfl, rfl⟩
    by_cases hyo : y = o
    · have hq2 := beq_t hyo
      have HY : Hid (y = o) := hyo
      clear hyo
      go_wp2
      go_ret2
      exact ⟨HB.out, .inl ⟨.inr HY.out, rfl⟩⟩
    · have hq2 := beq_f hyo
      have HY : Hid (¬ y = o) := hyo
      clear hyo
      go_wp2_with fail
      refine C10.out.mono ?_
      rintro e w3 ⟨rfl, rfl⟩
      by_cases hxo : x = o
      · have hq3 := beq_t hxo
        have HZ : Hid (x = o) := hxo
        clear hxo
        go_wp2
        go_ret2
        exact ⟨HB.out, .inr (.inl ⟨fun h => h.elim HX.out HY.out, HZ.out, rfl⟩)⟩
      · have hq3 := beq_f hxo
        have HZ : Hid (¬ x = o) := hxo
        clear hxo
        go_wp2
        go_ret2
        exact ⟨HB.out, .inr (.inr ⟨fun h => h.elim HX.out HY.out, HZ.out, rfl⟩)⟩
/-- Has it this end? -/
theorem ended_pb {s : Str} (h : s ≠ []) : s.drop (s.length - 1) = [s.getLast h] := by
  have h1 := List.dropLast_concat_getLast h
  have h2 : s.dropLast.length = s.length - 1 := by simp
  rw [show s.drop (s.length - 1) = (s.dropLast ++ [s.getLast h]).drop s.dropLast.length by rw [h1, h2]]
  exact List.drop_left
theorem ended_eq {s : Str} (h : s ≠ []) : ended s = if s.drop (s.length - 1) == [10] then s else s ++ [10] := by
  rw [ended_pb h]
  unfold ended
  rw [List.getLast?_eq_some_getLast h]
  by_cases e : s.getLast h = 10 <;> simp [e, h]
theorem sl22l (a : Option Addr) (n cap i : Nat) (hi : i ≤ n) (w : World) : (Instr.slice 22 (.slice a n cap) (some (.int .i64 i)) none none).run Try.prog w = .ok (.slice (adX 1 a cap i) (n - i : Nat) (cap - i : Nat)) w := by
  rw [run_slice_l w 22 a n cap elem22 .i64 i (by omega) (by omega), size22e, Result.andThen_ok, sliced]
  rfl
set_option maxRecDepth 20000 in
theorem suffix_any {w : World} (a : Option Addr) (ca : Nat) (s : Str) (hA : PB w a ca s) (hs : s ≠ []) (b : Option Addr) (cb : Nat) (hB : PB w b cb [10]) (hl : s.length ≤ 20000000) :
    Calls Try.prog 27 #[.slice a s.length ca, .slice b 1 cb] w fun e w' => e = .returned (.bool (s.drop (s.length - 1) == [10])) ∧ w' = w := by
  have hpos : 0 < s.length := List.length_pos_iff.2 hs
  obtain ⟨n, HN⟩ : ∃ n, Hid (s.length = n + 1) := ⟨s.length - 1, by show s.length = s.length - 1 + 1; omega⟩
  have hc : n + 1 ≤ ca := by rw [← HN.out]; exact hA.capl
  have hn : n ≤ 20000000 := by have := HN.out; omega
  have hm := hA.mid n (n + 1) (by omega) (by rw [HN.out]; exact Nat.le_refl _)
  rw [show (s.drop n).take (n + 1 - n) = s.drop n by rw [List.take_of_length_le]; rw [List.length_drop, HN.out]; omega] at hm
  have hlen : (s.drop n).length = 1 := by rw [List.length_drop, HN.out]; omega
  have hsl : (Instr.slice 22 (.slice a (n + 1 : Nat) ca) (some (.int .i64 (n : Nat))) none none).run Try.prog w = .ok (.slice (adX 1 a ca n) 1 (ca - n : Nat)) w := by
    have := sl22l a (n + 1) ca n (by omega) w
    rwa [show n + 1 - n = 1 by omega] at this
  have C : Hid (Calls Try.prog 13 #[.slice (adX 1 a ca n) 1 (ca - n : Nat), .slice b 1 cb] w fun e w' => e = .returned (.bool (s.drop n == [10])) ∧ w' = w) := hid (by
    have := equal_any (adX 1 a ca n) (ca - n) (s.drop n) hm b cb [10] hB
    rw [hlen] at this
    exact this)
  rw [HN.out, Nat.add_sub_cancel]
  clear hA hB hm hs hpos
  have hi : (1 : Int) ≤ (n : Int) + 1 := by omega
  go_enter Try.func27, Try.ntmps27
  go_wp2_with fail
  refine C.out.mono ?_
  rintro e w1 ⟨rfl, rfl⟩
  go_wp2
  go_ret
  exact ⟨rfl, rfl⟩
/- The document's. -/
theorem str_app (s t : Str) : (⟨s.toArray⟩ : ByteArray) ++ ⟨t.toArray⟩ = ⟨(s ++ t).toArray⟩ := by
  apply ByteArray.ext
  simp [ByteArray.data_append]
theorem refEnded_any (s : Str) (w : World) (hl : s.length ≤ 20000000) : Calls Try.prog 23 #[sV s] w fun e w' => e = .returned (sV (ended s)) ∧ w' = w := by
  unfold sV
  by_cases h0 : s = []
  · subst h0
    go_enter Try.func23, Try.ntmps23
    go_wp2
    go_ret
    exact ⟨rfl, rfl⟩
  · have hpos : 0 < s.length := List.length_pos_iff.2 h0
    obtain ⟨n, HN⟩ : ∃ n, Hid (s.length = n + 1) := ⟨s.length - 1, by show s.length = s.length - 1 + 1; omega⟩
    have HE := hid (ended_eq h0)
    have hl1 : (1 : Int) ≤ (s.length : Int) ∧ (s.length : Int) - 1 < (s.length : Int) := by omega
    have HL : Hid (∀ hh, ((⟨s.toArray⟩ : ByteArray)[s.length - 1]'hh) = s.getLast h0) := fun hh => by
      rw [List.getLast_eq_getElem]
      rfl
    go_enter Try.func23, Try.ntmps23
    go_wp2
    · rename_i hq
      rw [HL.out] at hq
      go_ret
      refine ⟨?_, rfl⟩
      rw [HE.out, ended_pb h0, if_neg (by
        intro e
        have e2 : s.getLast h0 = 10 := by simpa using e
        rw [e2] at hq
        cases hq)]
      exact congrArg (fun x => Ending.returned (Value.string x)) (str_app s [10])
    · rename_i hq
      rw [HL.out] at hq
      go_ret
      refine ⟨?_, rfl⟩
      rw [HE.out, ended_pb h0, if_pos (by
        have : ((s.getLast h0).toNat : Int) = 10 := by simpa using hq
        have e2 : s.getLast h0 = 10 := UInt8.toNat_inj.1 (by have : (s.getLast h0).toNat = 10 := by omega
                                                             rw [this]; rfl)
        rw [e2]; rfl)]
      rfl
set_option maxRecDepth 20000 in
theorem refPiece_any (o x y a b : Str) (w : World) (hx : x.length ≤ 20000000) (hy : y.length ≤ 20000000) (ha : a.length ≤ 20000000) (hb : b.length ≤ 20000000) :
    Calls Try.prog 17 #[sV o, sV x, sV y, sV a, sV b] w fun e w' => e = .returned (.tuple #[sV (pc a b (o, x, y)).1, .int .i64 ((pc a b (o, x, y)).2 : Nat)]) ∧ w' = w := by
  have C1 : Hid (Calls Try.prog 23 #[sV x] w fun e w' => e = .returned (sV (ended x)) ∧ w' = w) := hid (refEnded_any x w hx)
  have C2 : Hid (Calls Try.prog 23 #[sV y] w fun e w' => e = .returned (sV (ended y)) ∧ w' = w) := hid (refEnded_any y w hy)
  unfold sV at C1 C2 ⊢
  by_cases hxy : x = y
  · have hq := beq_t hxy
    have HR : Hid (pc a b (o, x, y) = (x, 0)) := hid (by unfold pc; rw [if_pos (.inl hxy)])
    clear hxy
    go_enter Try.func17, Try.ntmps17
    go_wp2
    go_ret2
    exact ⟨by rw [HR.out]; rfl, rfl⟩
  · have hq := beq_f hxy
    by_cases hxo : x = o
    · have hq2 := beq_t hxo
      have HR : Hid (pc a b (o, x, y) = (y, 0)) := hid (by
        unfold pc
        by_cases h : x = y ∨ y = o
        · rw [if_pos h]
          rcases h with h | h
          · rw [h]
          · rw [hxo, h]
        · rw [if_neg h, if_pos hxo])
      clear hxy hxo
      go_enter Try.func17, Try.ntmps17
      go_wp2
      go_ret2
      exact ⟨by rw [HR.out]; rfl, rfl⟩
    · have hq2 := beq_f hxo
      by_cases hyo : y = o
      · have hq3 := beq_t hyo
        have HR : Hid (pc a b (o, x, y) = (x, 0)) := hid (by unfold pc; rw [if_pos (.inr hyo)])
        clear hxy hxo hyo
        go_enter Try.func17, Try.ntmps17
        go_wp2
        go_ret2
        exact ⟨by rw [HR.out]; rfl, rfl⟩
      · have hq3 := beq_f hyo
        have HR : Hid (pc a b (o, x, y) = (cfl a b x y, 1)) := hid (by unfold pc; rw [if_neg (fun h => h.elim hxy hyo), if_neg hxo])
        clear hxy hxo hyo
        obtain ⟨A, HA⟩ : ∃ X, Hid ((⟨a.toArray⟩ : ByteArray) = X) := ⟨_, rfl⟩
        obtain ⟨B, HB⟩ : ∃ X, Hid ((⟨b.toArray⟩ : ByteArray) = X) := ⟨_, rfl⟩
        obtain ⟨X, HX⟩ : ∃ X, Hid ((⟨(ended x).toArray⟩ : ByteArray) = X) := ⟨_, rfl⟩
        obtain ⟨Y, HY⟩ : ∃ X, Hid ((⟨(ended y).toArray⟩ : ByteArray) = X) := ⟨_, rfl⟩
        have sA : A.size ≤ 20000000 := by rw [← HA.out]; simpa [ByteArray.size] using ha
        have sB : B.size ≤ 20000000 := by rw [← HB.out]; simpa [ByteArray.size] using hb
        have sX : X.size ≤ 20000001 := by rw [← HX.out]; have := ended_len x; simp [ByteArray.size]; omega
        have sY : Y.size ≤ 20000001 := by rw [← HY.out]; have := ended_len y; simp [ByteArray.size]; omega
        obtain ⟨A1, h1⟩ : ∃ Z, (⟨#[60, 60, 60, 60, 60, 60, 60, 32]⟩ : ByteArray) ++ A = Z := ⟨_, rfl⟩
        obtain ⟨A2, h2⟩ : ∃ Z, A1 ++ (⟨#[10]⟩ : ByteArray) = Z := ⟨_, rfl⟩
        obtain ⟨A3, h3⟩ : ∃ Z, A2 ++ X = Z := ⟨_, rfl⟩
        obtain ⟨A4, h4⟩ : ∃ Z, A3 ++ (⟨#[61, 61, 61, 61, 61, 61, 61, 10]⟩ : ByteArray) = Z := ⟨_, rfl⟩
        obtain ⟨A5, h5⟩ : ∃ Z, A4 ++ Y = Z := ⟨_, rfl⟩
        obtain ⟨A6, h6⟩ : ∃ Z, A5 ++ (⟨#[62, 62, 62, 62, 62, 62, 62, 32]⟩ : ByteArray) = Z := ⟨_, rfl⟩
        obtain ⟨A7, h7⟩ : ∃ Z, A6 ++ B = Z := ⟨_, rfl⟩
        obtain ⟨A8, h8⟩ : ∃ Z, A7 ++ (⟨#[10]⟩ : ByteArray) = Z := ⟨_, rfl⟩
        have s1 : A1.size ≤ 20000008 := by rw [← h1, ByteArray.size_append, show (⟨#[60, 60, 60, 60, 60, 60, 60, 32]⟩ : ByteArray).size = 8 from rfl]; omega
        have s2 : A2.size ≤ 20000009 := by rw [← h2, ByteArray.size_append, show (⟨#[10]⟩ : ByteArray).size = 1 from rfl]; omega
        have s3 : A3.size ≤ 40000010 := by rw [← h3, ByteArray.size_append]; omega
        have s4 : A4.size ≤ 40000018 := by rw [← h4, ByteArray.size_append, show (⟨#[61, 61, 61, 61, 61, 61, 61, 10]⟩ : ByteArray).size = 8 from rfl]; omega
        have s5 : A5.size ≤ 60000019 := by rw [← h5, ByteArray.size_append]; omega
        have s6 : A6.size ≤ 60000027 := by rw [← h6, ByteArray.size_append, show (⟨#[62, 62, 62, 62, 62, 62, 62, 32]⟩ : ByteArray).size = 8 from rfl]; omega
        have s7 : A7.size ≤ 80000027 := by rw [← h7, ByteArray.size_append]; omega
        have HF : Hid ((⟨(cfl a b x y).toArray⟩ : ByteArray) = A8) := hid (by
          unfold cfl
          rw [← str_app, ← str_app, ← str_app, ← str_app, ← str_app, ← str_app, ← str_app, ← str_app, HA.out, HB.out, HX.out, HY.out, ← h8, ← h7, ← h6, ← h5, ← h4, ← h3, ← h2, ← h1])
        rw [HR.out]
        simp only []
        rw [HF.out, HA.out, HB.out]
        rw [HX.out] at C1
        rw [HY.out] at C2
        clear HR HF
        go_enter Try.func17, Try.ntmps17
        go_wp2_with fail
        refine C1.out.mono ?_
        rintro e w1 ⟨rfl, rfl⟩
        go_wp2_with fail
        refine C2.out.mono ?_
        rintro e w2 ⟨rfl, rfl⟩
        go_wp2
        go_ret2
        exact ⟨rfl, rfl⟩
end Go.Proofs.Ytakddciegnkpdaa
