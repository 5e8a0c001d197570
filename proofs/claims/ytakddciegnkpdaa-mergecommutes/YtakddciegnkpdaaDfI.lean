/- 'strings.IndexByte'; the iterator of 'strings.Lines'. -/
import Derived.Test.YtakddciegnkpdaaDfC
namespace Go.Proofs.Ytakddciegnkpdaa
open Go.RowKit Go.Shelf
set_option linter.unusedVariables false
set_option linter.unusedSectionVars false
set_option linter.unusedSimpArgs false
theorem idx37 (s : Str) (w : World) : (callFunc 40 #[sV s, .int .u8 10]).run Try.prog w = .ok (.value (.int .i64 (Lib.indexByte s 10))) w := by
  unfold sV
  rw [run_callFunc_extern Try.func40 (by kernel_rfl) (by kernel_rfl) (by kernel_rfl) (e := Extern.BytealgIndexByte.indexByte) (by kernel_rfl), Lib.run_indexByteString]
  rfl
theorem idx31 (s : Str) (w : World) : Calls Try.prog 36 #[sV s, .int .u8 10] w fun e w' => e = .returned (.int .i64 (Lib.indexByte s 10)) ∧ w' = w := by
  have h := idx37 s w
  obtain ⟨T, HT⟩ : ∃ T, Hid (sV s = T) := ⟨_, rfl⟩
  rw [HT.out] at h ⊢
  go_enter Try.func36, Try.ntmps36
  go_wp2
  go_ret
  exact ⟨rfl, rfl⟩
theorem idx22 (s : Str) (w : World) : Calls Try.prog 31 #[sV s, .int .u8 10] w fun e w' => e = .returned (.int .i64 (Lib.indexByte s 10)) ∧ w' = w := by
  have h : Hid (Calls Try.prog 36 #[sV s, .int .u8 10] w fun e w' => e = .returned (.int .i64 (Lib.indexByte s 10)) ∧ w' = w) := idx31 s w
  obtain ⟨T, HT⟩ : ∃ T, Hid (sV s = T) := ⟨_, rfl⟩
  rw [HT.out] at h ⊢
  go_enter Try.func31, Try.ntmps31
  go_wp2_with fail
  refine h.out.mono ?_
  rintro e w1 ⟨rfl, rfl⟩
  go_wp2
  go_ret
  exact ⟨rfl, rfl⟩
theorem slc_to (s : Str) (j : Nat) (J : Int) (hJ : J = j) (h : j ≤ s.length) (w : World) : (Instr.slice 9 (sV s) none (some (.int .i64 J)) none).run Try.prog w = .ok (sV (s.take j)) w := by
  subst hJ
  unfold sV
  rw [run_slice_string_to_if w 9 _ .i64 j Try.underlying9, if_pos ⟨by omega, by rw [txt_len]; omega⟩, Int.toNat_natCast, ext_txt, List.drop_zero, Nat.sub_zero]
theorem slc_from (s : Str) (i : Nat) (I : Int) (hI : I = i) (h : i ≤ s.length) (w : World) : (Instr.slice 9 (sV s) (some (.int .i64 I)) none none).run Try.prog w = .ok (sV (s.drop i)) w := by
  subst hI
  unfold sV
  rw [run_slice_string_from_if w 9 _ .i64 i Try.underlying9, if_pos ⟨by omega, by rw [txt_len]; omega⟩, Int.toNat_natCast, ext_txt, txt_len, List.take_of_length_le (by rw [List.length_drop]; omega)]
theorem len_sV (s : Str) (ty : TypeId) (w : World) : (Builtin.len_ #[9] ty #[sV s]).run Try.prog w = .ok (.int .i64 (s.length : Nat)) w := by
  unfold sV
  go_simp
def encL (x : Str) : Array Value := #[sV x]
theorem idx_or (s : Str) : Lib.indexByte s 10 = -1 ∨ ∃ i : Nat, Lib.indexByte s 10 = (i : Int) := by
  have := Lib.indexByte_ge s 10
  by_cases h : Lib.indexByte s 10 = -1
  · exact .inl h
  · exact .inr ⟨(Lib.indexByte s 10).toNat, by omega⟩
theorem Fre.set {X B : Nat} {A : World} (h : Fre X A B) (v : Value) : Fre X (A.setCell ⟨B, 0, none⟩ v) B :=
  ⟨by simp [World.setCell]; exact h.lt, h.ne, fun ⟨u, h1, h2⟩ => h.no ⟨u, by
    rw [← h1]
    exact (World.cell?_of_block (a := ⟨X, 0, none⟩) (Below.heap_setCell _ _ _ X (fun e => h.ne e.symm))).symm, h2⟩⟩
set_option maxRecDepth 100000 in
set_option maxHeartbeats 4000000 in
theorem lines_all (n : Nat) (hn : 1 ≤ n) (w : World) (X Bs : Nat) (s : Str) (hl : s.length ≤ 4000) (hbs : Boxed w Bs 9 (sV s)) (hX : X < w.heap.size) (fs : Fre X w Bs) (hob : ∀ k, Ob X w k → k < w.heap.size) :
    SeqAll Bs Fence.wide n Try.prog 30 #[.pointer (some ⟨Bs, 0, none⟩)] encL (fun _ _ => True) (Kx X) (fun xs => xs = lns s) 5000 w := by
  intro l J W hW hwl hlW hJ hJ2 hY h0
  have hXW : X < W.heap.size := Nat.lt_of_lt_of_le hX hW.size
  have K0 : Kx X l w W := ⟨hW.os, hW.tape, hW.output, hW.size, fun k ⟨v, h1, h2⟩ => .inl ⟨v, by rw [← h1]; exact (hW.cell (p := ⟨X, 0, none⟩) hX).symm, h2⟩, fun k h1 _ _ _ => hW.block k h1, fun hb k ⟨v, h1, h2⟩ => Nat.lt_of_lt_of_le (hb k ⟨v, by rw [← h1]; exact (hW.cell (p := ⟨X, 0, none⟩) hX).symm, h2⟩) hW.size⟩
  have hBl : Bs ≠ l := by have := fs.lt; omega
  have HBX : Hid (Boxed W Bs 9 (sV s)) := hid (boxed_kx hbs K0 fs hBl)
  have HFS : Hid (Fre X W Bs) := hid (fs.kx K0)
  have HYY : Hid (∀ pre x W1, J pre W1 → pre.length < 5000 → YieldAt Fence.wide (n - 1) Try.prog l (encL x) W1 fun e W' => e = .returned (.bool true) ∧ J (pre ++ [x]) W' ∧ Kx X l W1 W') := fun pre x W1 h1 h2 => hY pre x W1 h1 trivial h2
  have HJJ : Hid (∀ s A B, J s A → A.grownBy B none → J s B) := hJ
  have HJ2 : Hid (∀ s A B, J s A → A.grownBy B (some Bs) → J s B) := hJ2
  have HJ0 : Hid (J [] W) := h0
  have HSL : Hid (s.length ≤ 4000) := hl
  have HX : Hid (X < W.heap.size) := hXW
  clear hJ hJ2 hY h0 fs hbs K0 hob hl
  refine callsIn_of_wp Try.func30 rfl trivial ?_ rfl
  simp only [Try.ntmps30, List.size_toArray, List.length_cons, List.length_nil, Nat.reduceAdd, Nat.reduceSub, Array.replicate_succ, Array.replicate_zero, List.push_toArray, List.append_toArray, List.nil_append, List.cons_append]
  gi_wp2
  gi_loopg [] s.length (fun k wr => ∃ (pre : List Str) (rest : Str), k = rest.length ∧ Hid (lns s = pre ++ lns rest) ∧ Hid (Boxed wr Bs 9 (sV rest)) ∧ Hid (Fre X wr Bs) ∧ Hid (J pre wr) ∧ Hid (X < wr.heap.size))
  case atStart => exact ⟨[], s, rfl, hid rfl, HBX, HFS, HJ0, HX⟩
  case round =>
    obtain ⟨pre, rest, hk, HL, HBR, HFR, HJR, HXR⟩ := hrel
    obtain ⟨T, HT⟩ : ∃ T, Hid (sV rest = T) := ⟨_, rfl⟩
    obtain ⟨N, HN⟩ : ∃ N, Hid (rest.length = N) := ⟨_, rfl⟩
    have hN : gk = N := hk.trans HN.out
    have hpl : pre.length < 5000 := by
      have h1 := lns_few s
      rw [HL.out, List.length_append] at h1
      have := HSL.out
      omega
    have hln : ∀ (ty : TypeId) (w : World), (Builtin.len_ #[9] ty #[T]).run Try.prog w = .ok (.int .i64 (N : Int)) w := fun ty w => by rw [← HT.out, ← HN.out]; exact len_sV rest ty w
    have ks : wr.cell? ⟨Bs, 0, none⟩ = some T := by rw [← HT.out]; exact HBR.out.cell
    have fz : wr.frozen? ⟨Bs, 0, none⟩ = false := HBR.out.frozen
    by_cases hN0 : N = 0
    · have hNI : ¬ (0 : Int) < (N : Int) := by omega
      have HE : Hid (pre = lns s) := hid (by
        have h0 : rest = [] := List.length_eq_zero_iff.1 (by rw [HN.out]; exact hN0)
        have := HL.out
        rw [h0, lns_nil, List.append_nil] at this
        exact this.symm)
      gi_wp2
      go_end0
      rw [← HE.out]
      exact ⟨⟨_, rfl⟩, HJR.out⟩
    · have hNI : (0 : Int) < (N : Int) := by omega
      have hrne : rest ≠ [] := fun h => hN0 (by rw [← HN.out, h]; rfl)
      have C22 : Calls Try.prog 31 #[T, .int .u8 10] wr fun e w' => e = .returned (.int .i64 (Lib.indexByte rest 10)) ∧ w' = wr := by rw [← HT.out]; exact idx22 rest wr
      rcases idx_or rest with hix | ⟨i, hix⟩
      · rw [hix] at C22
        have HL5 : Hid (lns s = (pre ++ [rest]) ++ lns []) := hid (by rw [lns_nil, List.append_nil, ← lns_none rest hix hrne]; exact HL.out)
        clear hix
        gi_wp2_with (refine ⟨trivial, ?_⟩; gi_at_call 31; refine (callsIn_wide.2 C22).mono ?_; clear C22; rintro ev w1 ⟨rfl, rfl⟩)
        have HJ4 : Hid (J pre (w1.setCell ⟨Bs, 0, none⟩ (Value.string { data := #[] }))) := hid (HJ2.out _ _ _ HJR.out (grownBy_setCell' w1 Bs _))
        have HBX4 : Hid (Boxed (w1.setCell ⟨Bs, 0, none⟩ (Value.string { data := #[] })) Bs 9 (sV (([] : Str)))) := hid (Boxed.set _ HBR.out)
        have HFS4 : Hid (Fre X (w1.setCell ⟨Bs, 0, none⟩ (Value.string { data := #[] })) Bs) := hid (HFR.out.set _)
        have HX4 : Hid (X < (w1.setCell ⟨Bs, 0, none⟩ (Value.string { data := #[] })).heap.size) := hid (by simp [World.setCell]; exact HXR.out)
        generalize w1.setCell ⟨Bs, 0, none⟩ (Value.string { data := #[] }) = W4 at HJ4 HBX4 HFS4 HX4 ⊢
        clear ks fz HBR HFR HJR HXR
        obtain ⟨fn_, tmps, assign, body, hy, hRr⟩ := HYY.out pre (rest) W4 HJ4.out (by omega)
        have hRr2 : Hid (RoundIn Fence.wide (n - 1) Try.prog l fn_ tmps assign body W4 fun e W' => e = .returned (.bool true) ∧ J (pre ++ [rest]) W' ∧ Kx X l W4 W') := hid hRr
        rw [show encL (rest) = #[T] by unfold encL; rw [HT.out]] at hy
        clear hRr
        simp only [hy, go_sem]
        gi_wp2
        refine ⟨fun _ => hn, hRr2.out.mono ?_⟩
        rintro e1 W5 ⟨rfl, hJ5, hk5⟩
        have HBX5 : Hid (Boxed W5 Bs 9 (sV (([] : Str)))) := hid (boxed_kx HBX4.out hk5 HFS4.out hBl)
        have HFS5 : Hid (Fre X W5 Bs) := hid (HFS4.out.kx hk5)
        have HJ5 : Hid (J (pre ++ [rest]) W5) := hJ5
        have HX5 : Hid (X < W5.heap.size) := hid (Nat.lt_of_lt_of_le HX4.out hk5.size)
        clear hJ5 hk5
        gi_wp2
        gi_roundg (([] : Str)).length
        case measure => rw [hN]; show 0 < N; omega
        case rel => exact ⟨pre ++ [rest], ([] : Str), rfl, HL5, HBX5, HFS5, HJ5, HX5⟩
      · rw [hix] at C22
        obtain ⟨hil, hls⟩ := lns_some rest i hix
        rw [HN.out] at hil
        have HL5 : Hid (lns s = (pre ++ [rest.take (i + 1)]) ++ lns (rest.drop (i + 1))) := hid (by rw [HL.out, hls, List.append_assoc]; rfl)
        obtain ⟨T1, HT1⟩ : ∃ T, Hid (sV (rest.take (i + 1)) = T) := ⟨_, rfl⟩
        obtain ⟨B2, HT2⟩ : ∃ B, Hid (sV (rest.drop (i + 1)) = .string B) := ⟨_, rfl⟩
        have hs1 : ∀ w : World, (Instr.slice 9 T none (some (.int .i64 ((i : Int) + 1))) none).run Try.prog w = .ok T1 w := fun w => by rw [← HT.out, ← HT1.out]; exact slc_to rest (i + 1) _ (by omega) (by rw [HN.out]; omega) w
        have hs2 : ∀ w : World, (Instr.slice 9 T (some (.int .i64 ((i : Int) + 1))) none none).run Try.prog w = .ok (.string B2) w := fun w => by rw [← HT.out, ← HT2.out]; exact slc_from rest (i + 1) _ (by omega) (by rw [HN.out]; omega) w
        have hi4 : i ≤ 4000 := by
          have h1 := lns_len s
          rw [HL.out, List.map_append, List.sum_append, lns_len, HN.out] at h1
          have := HSL.out
          omega
        have hiI : (0 : Int) ≤ (i : Int) := by omega
        have hwr : IntKind.i64.wrap ((i : Int) + 1) = (i : Int) + 1 := by rw [IntKind.wrap_i64]; omega
        clear hix hls
        gi_wp2_with (refine ⟨trivial, ?_⟩; gi_at_call 31; refine (callsIn_wide.2 C22).mono ?_; clear C22; rintro ev w1 ⟨rfl, rfl⟩)
        refine wpIn_wide.2 ?_
        have hS0 : w1.drew.cell? ⟨Bs, 0, none⟩ = some T := ks
        have hfz : w1.drew.frozen? ⟨Bs, 0, none⟩ = false := fz
        refine region_U (fun w' => w'.cell? ⟨Bs, 0, none⟩ = some T) 9 (by kernel_rfl) ?_
        have HJd : Hid (J pre w1.drew) := hid (HJJ.out _ _ _ HJR.out (grown_drewN1 w1))
        have HB4 : Hid (Boxed w1.drew Bs 9 (sV rest)) := HBR
        have HFRd : Hid (Fre X w1.drew Bs) := hid ⟨HFR.out.lt, HFR.out.ne, HFR.out.no⟩
        have HXd : Hid (X < w1.drew.heap.size) := HXR
        clear ks fz HBR HFR HJR HXR
        generalize w1.drew = w2 at hS0 hfz HJd HB4 HFRd HXd ⊢
        refine takeU (i := 0) (v := ?_) rfl (by kernel_rfl) (by kernel_rfl) (by kernel_rfl) (by kernel_rfl) (fun _ _ _ h => h) (Or.inl ⟨by rfl, ?_⟩) hS0 ?_
        rotate_left
        · intro w' s0; go_simp; first | rfl | (simp only [hwr, hs1, hs2, Result.andThen_ok]; rfl)
        try simp only [Act.put, List.setIfInBounds_toArray, List.set_cons_zero, List.set_cons_succ]
        refine takeU (i := 1) (v := ?_) rfl (by kernel_rfl) (by kernel_rfl) (by kernel_rfl) (by kernel_rfl) (fun _ _ _ h => h) (Or.inl ⟨by rfl, ?_⟩) hS0 ?_
        rotate_left
        · intro w' s0; go_simp; first | rfl | (simp only [hwr, hs1, hs2, Result.andThen_ok]; rfl)
        try simp only [Act.put, List.setIfInBounds_toArray, List.set_cons_zero, List.set_cons_succ]
        refine takeU (i := 2) (v := ?_) rfl (by kernel_rfl) (by kernel_rfl) (by kernel_rfl) (by kernel_rfl) (fun _ _ _ h => h) (Or.inl ⟨by rfl, ?_⟩) hS0 ?_
        rotate_left
        · intro w' s0; go_simp; first | rfl | (simp only [hwr, hs1, hs2, Result.andThen_ok]; rfl)
        try simp only [Act.put, List.setIfInBounds_toArray, List.set_cons_zero, List.set_cons_succ]
        refine takeU (i := 3) (v := ?_) rfl (by kernel_rfl) (by kernel_rfl) (by kernel_rfl) (by kernel_rfl) (fun _ _ _ h => h) (Or.inl ⟨by rfl, ?_⟩) hS0 ?_
        rotate_left
        · intro w' s0; go_simp; first | rfl | (simp only [hwr, hs1, hs2, Result.andThen_ok]; rfl)
        try simp only [Act.put, List.setIfInBounds_toArray, List.set_cons_zero, List.set_cons_succ]
        refine takeU (i := 4) (v := ?_) rfl (by kernel_rfl) (by kernel_rfl) (by kernel_rfl) (by kernel_rfl) (fun _ _ _ h => h) (Or.inl ⟨by rfl, ?_⟩) hS0 ?_
        rotate_left
        · intro w' s0; go_simp; first | rfl | (simp only [hwr, hs1, hs2, Result.andThen_ok]; rfl)
        try simp only [Act.put, List.setIfInBounds_toArray, List.set_cons_zero, List.set_cons_succ]
        refine takeU (i := 5) (v := ?_) rfl (by kernel_rfl) (by kernel_rfl) (by kernel_rfl) (by kernel_rfl) (fun _ _ _ h => h) (Or.inl ⟨by rfl, ?_⟩) hS0 ?_
        rotate_left
        · intro w' s0; go_simp; first | rfl | (simp only [hwr, hs1, hs2, Result.andThen_ok]; rfl)
        try simp only [Act.put, List.setIfInBounds_toArray, List.set_cons_zero, List.set_cons_succ]
        refine takeU (i := 6) (v := ?_) rfl (by kernel_rfl) (by kernel_rfl) (by kernel_rfl) (by kernel_rfl) (fun _ _ _ h => h) (Or.inl ⟨by rfl, ?_⟩) hS0 ?_
        rotate_left
        · intro w' s0; go_simp; first | rfl | (simp only [hwr, hs1, hs2, Result.andThen_ok]; rfl)
        try simp only [Act.put, List.setIfInBounds_toArray, List.set_cons_zero, List.set_cons_succ]
        refine takeU (i := 7) (v := ?_) rfl (by kernel_rfl) (by kernel_rfl) (by kernel_rfl) (by kernel_rfl) (fun _ _ _ h => h) (Or.inl ⟨by rfl, ?_⟩) hS0 ?_
        rotate_left
        · intro w' s0; go_simp; first | rfl | (simp only [hwr, hs1, hs2, Result.andThen_ok]; rfl)
        try simp only [Act.put, List.setIfInBounds_toArray, List.set_cons_zero, List.set_cons_succ]
        refine takeU (i := 8) (v := ?_) rfl (by kernel_rfl) (by kernel_rfl) (by kernel_rfl) (by kernel_rfl) (fun _ _ _ h => h) (Or.inl ⟨by rfl, ?_⟩) hS0 ?_
        rotate_left
        · intro w' s0; go_simp; first | rfl | (simp only [hwr, hs1, hs2, Result.andThen_ok]; rfl)
        try simp only [Act.put, List.setIfInBounds_toArray, List.set_cons_zero, List.set_cons_succ]
        refine readyU1 (i := 9) (by kernel_rfl) (consU rfl (fun KK hKK => ?_))
        go_simp
        refine hKK.out _ _ (.inl rfl) ?_
        clear hKK KK
        try simp only [Act.put, List.setIfInBounds_toArray, List.set_cons_zero, List.set_cons_succ]
        refine doneU (by kernel_rfl) ?_ _
        have HJ4 : Hid (J pre (w2.setCell ⟨Bs, 0, none⟩ (Value.string B2))) := hid (HJ2.out _ _ _ HJd.out (grownBy_setCell' w2 Bs _))
        have HBX4 : Hid (Boxed (w2.setCell ⟨Bs, 0, none⟩ (Value.string B2)) Bs 9 (sV (rest.drop (i + 1)))) := hid (HT2.out.symm ▸ Boxed.set (.string B2) HB4.out)
        have HFS4 : Hid (Fre X (w2.setCell ⟨Bs, 0, none⟩ (Value.string B2)) Bs) := hid (HFRd.out.set _)
        have HX4 : Hid (X < (w2.setCell ⟨Bs, 0, none⟩ (Value.string B2)).heap.size) := hid (by simp [World.setCell]; exact HXd.out)
        generalize w2.setCell ⟨Bs, 0, none⟩ (Value.string B2) = W4 at HJ4 HBX4 HFS4 HX4 ⊢
        simp only [Exit.then]
        gi_wp2
        obtain ⟨fn_, tmps, assign, body, hy, hRr⟩ := HYY.out pre (rest.take (i + 1)) W4 HJ4.out (by omega)
        have hRr2 : Hid (RoundIn Fence.wide (n - 1) Try.prog l fn_ tmps assign body W4 fun e W' => e = .returned (.bool true) ∧ J (pre ++ [rest.take (i + 1)]) W' ∧ Kx X l W4 W') := hid hRr
        rw [show encL (rest.take (i + 1)) = #[T1] by unfold encL; rw [HT1.out]] at hy
        clear hRr
        simp only [hy, go_sem]
        gi_wp2
        refine ⟨fun _ => hn, hRr2.out.mono ?_⟩
        rintro e1 W5 ⟨rfl, hJ5, hk5⟩
        have HBX5 : Hid (Boxed W5 Bs 9 (sV (rest.drop (i + 1)))) := hid (boxed_kx HBX4.out hk5 HFS4.out hBl)
        have HFS5 : Hid (Fre X W5 Bs) := hid (HFS4.out.kx hk5)
        have HJ5 : Hid (J (pre ++ [rest.take (i + 1)]) W5) := hJ5
        have HX5 : Hid (X < W5.heap.size) := hid (Nat.lt_of_lt_of_le HX4.out hk5.size)
        clear hJ5 hk5
        gi_wp2
        gi_roundg (rest.drop (i + 1)).length
        case measure => rw [List.length_drop, HN.out, hN]; omega
        case rel => exact ⟨pre ++ [rest.take (i + 1)], rest.drop (i + 1), rfl, HL5, HBX5, HFS5, HJ5, HX5⟩
end Go.Proofs.Ytakddciegnkpdaa
