/- The document's 'size', 'Sizes'. -/
import Derived.Test.YtblegkefeiefjaaDoorSzB
namespace Go.Proofs.YtblegkefeiefjaaDoor
open Go.RowKit Plain
set_option linter.unusedVariables false
set_option linter.unusedSimpArgs false
theorem Tryd.results18 : Tryd.f18.results = #[.tmp 2, .tmp 3, .tmp 4] := by kernel_rfl
theorem Tryd.results11 : Tryd.f11.results = #[.tmp 2, .tmp 3, .tmp 4, .tmp 5] := by kernel_rfl
theorem wrap64_nat {n : Nat} (h : n < 9223372036854775808) : wrap64 (n : Int) = n := by rw [wrap64_eq, IntKind.wrap_i64]; omega
theorem b127 : 127 * 34359738368 < 9223372036854775808 := by decide
theorem b35 : 34359738368 < 9223372036854775808 := by decide
/-- What the document's reading of a size leaves. -/
def PostQ (w : World) (r : Option (Nat × List Int)) (ev : Ending) (w' : World) : Prop :=
  match r with
  | none => ∃ n a k cap q, ev = .returned (.tuple #[.int .i64 n, .slice a k cap, .bool false]) ∧ w' = w.drewN q
  | some (n, l) => ∃ a cap q, ev = .returned (.tuple #[.int .i64 n, .slice a l.length cap, .bool true]) ∧ w' = w.drewN q ∧ Sl w' a cap l ∧ n < 34359738368
set_option maxRecDepth 20000 in
set_option maxHeartbeats 600000 in
theorem refSize_some (b off cap : Nat) (bs : List Int) (w : World) (hz : IsB bs) (hl : bs.length ≤ 400000) (h0 : 0 < bs.length) (hat : At w b off bs) (hb : b < w.heap.size) (hcap : bs.length ≤ cap) :
    Calls Tryd.prog 18 #[.slice (some ⟨b, off, none⟩) bs.length cap] w (PostQ w (sz bs)) := by
  obtain ⟨R, HR⟩ : ∃ R, Hid (sz bs = R) := ⟨_, rfl⟩
  rw [HR.out]
  obtain ⟨L, HL⟩ : ∃ L, Hid (L = bs.length) := ⟨_, rfl⟩
  rw [← HL.out] at hl h0 hcap ⊢
  obtain ⟨m, HM⟩ : ∃ m, Hid (m = min L 5) := ⟨_, rfl⟩
  have hm5 : m ≤ 5 := by rw [HM.out]; omega
  have hmL : m ≤ L := by rw [HM.out]; omega
  have HAT : Hid _ := hat
  have HZ : Hid _ := hz
  clear hat hz
  go_enter Tryd.func18, Tryd.ntmps18
  go_wp2_with fail
  go_loopg [5, 6] m (fun k n i wr => ∃ j a : Nat, j ≤ m ∧ i = .int .i64 j ∧ n = .int .i64 a ∧ k = m - j ∧ wr = w ∧ a < 2 ^ (7 * j) ∧ Hid (szGo (5 - j) j a (bs.drop j) = R))
  case atStart => exact ⟨0, 0, by omega, rfl, rfl, rfl, rfl, by simp, HR.out⟩
  case round =>
    obtain ⟨j, a, hj, rfl, rfl, hk, rfl, ha, HS⟩ := hrel
    by_cases hjm : j < m
    · have hj5 : (j : Int) < 5 := by omega
      have hjL : (j : Int) < L := by omega
      have hjb : j < bs.length := by have := HL.out; omega
      have hxb := HZ.out _ (List.getElem_mem hjb)
      obtain ⟨x, HX⟩ : ∃ x : Nat, Hid (bs[j] = (x : Int)) := ⟨bs[j].toNat, by show _ = _; omega⟩
      have hx : x < 256 := by have := HX.out; omega
      have cx := HAT.out j hjb
      have hgx : bs.getD j 0 = (x : Int) := by rw [List.getD_eq_getElem?_getD, List.getElem?_eq_getElem hjb, ← HX.out]; rfl
      rw [hgx] at cx
      have hdrop : bs.drop j = (x : Int) :: bs.drop (j + 1) := by rw [List.drop_eq_getElem_cons hjb, HX.out]
      have hp := pow35 (show j ≤ 5 by omega)
      have hpx : x % 128 * 2 ^ (7 * j) ≤ 127 * 34359738368 := Nat.mul_le_mul (by omega) hp
      obtain ⟨sh, HSH⟩ : ∃ sh, Hid (sh = 7 * j) := ⟨_, rfl⟩
      have hsh : (7 : Int) * (j : Int) = (sh : Int) := by rw [HSH.out]; push_cast; rfl
      obtain ⟨y, HY⟩ : ∃ y, Hid (y = x % 128) := ⟨_, rfl⟩
      have hyw : wrap64 (y : Int) = (y : Int) := by rw [wrap64_eq, IntKind.wrap_i64]; have := HY.out; omega
      have han : (x : Int).tmod 128 = (y : Int) := by rw [HY.out, Int.tmod_eq_emod_of_nonneg (by omega)]; omega
      obtain ⟨v, HV⟩ : ∃ v, Hid (v = a + x % 128 * 2 ^ (7 * j)) := ⟨_, rfl⟩
      have hv : v < 2 ^ (7 * (j + 1)) := by
        rw [HV.out, show 7 * (j + 1) = 7 * j + 7 by omega, Nat.pow_add]
        have : x % 128 * 2 ^ (7 * j) + 2 ^ (7 * j) ≤ 128 * 2 ^ (7 * j) := by
          have h : (x % 128 + 1) * 2 ^ (7 * j) ≤ 128 * 2 ^ (7 * j) := Nat.mul_le_mul (by omega) (Nat.le_refl _)
          rw [Nat.add_mul, Nat.one_mul] at h; exact h
        rw [Nat.mul_comm (2 ^ (7 * j))]
        omega
      have hor : (y : Int) * 2 ^ sh = ((x % 128 * 2 ^ (7 * j) : Nat) : Int) := by rw [HY.out, HSH.out]; push_cast; rfl
      obtain ⟨t, HT⟩ : ∃ t : Nat, Hid (t = x % 128 * 2 ^ (7 * j)) := ⟨_, rfl⟩
      rw [← HT.out] at hor HV hpx
      have hv1 : (a : Int) + (t : Int) = (v : Int) := by rw [HV.out]; push_cast; rfl
      have hv35 : v < 34359738368 := Nat.lt_of_lt_of_le hv (pow35 (by omega))
      have hwt : Hid (wrap64 (t : Int) = (t : Int)) := wrap64_nat (Nat.lt_of_le_of_lt hpx b127)
      have hwv : Hid (wrap64 (v : Int) = (v : Int)) := wrap64_nat (Nat.lt_trans hv35 b35)
      have HVV : Hid _ := hv
      have HA : Hid _ := ha
      clear hv
      rw [show 5 - j = (4 - j) + 1 by omega, hdrop, szGo] at HS
      rw [show ((x : Int) % 128).toNat = x % 128 by omega, ← HT.out, ← HV.out] at HS
      clear hdrop hgx hxb hp hpx
      by_cases hx8 : x < 128
      · have hx8Z : (x : Int) < 128 := by omega
        rw [if_pos hx8Z] at HS
        obtain ⟨ad, HAD⟩ : ∃ ad, Hid ((if cap = j + 1 then some (⟨b, off, none⟩ : Addr) else some ⟨b, off + (j + 1), none⟩) = ad) := ⟨_, rfl⟩
        have had := HAD.out
        have HSL : Hid (∀ q, Sl (wr.drewN q) ad (cap - (j + 1)) (bs.drop (j + 1))) := fun q =>
            ⟨by rw [List.length_drop, ← HL.out]; omega, fun h => by
              rw [List.length_drop, ← HL.out] at h
              rw [← HAD.out, if_neg (by omega)]
              exact ⟨b, off + (j + 1), rfl, hb, at_drop HAT.out (j + 1) (by rw [← HL.out]; omega)⟩, fun h => by rw [← HAD.out] at h; split at h <;> cases h⟩
        have hlen : (bs.drop (j + 1)).length = L - (j + 1) := by rw [List.length_drop, ← HL.out]
        have hv5 : v < 34359738368 := hv35
        by_cases hj0 : j = 0
        · subst hj0
          rw [if_pos (.inl rfl)] at HS
          obtain rfl : a = 0 := by simpa using ha
          obtain rfl : sh = 0 := by rw [HSH.out]
          obtain rfl : t = y := by rw [HT.out, HY.out]; simp
          obtain rfl : v = t := by rw [HV.out]; simp
          have cx0 : wr.cell? ⟨b, off, none⟩ = some (.int .u8 x) := by simpa using cx
          clear cx
          rw [Nat.zero_add] at had
          clear hor hyw hsh hv1
          go_wp2_with fail
          go_quiet (fail)
          go_wp2
          exact bodyPost_ret (results_3 Tryd.results18 _ _ _ _ _ rfl rfl rfl) rfl (by rw [← HS.out]; exact ⟨_, _, nq, by rw [hlen]; rfl, rfl, HSL.out nq, hv5⟩)
        · have hj0Z : ¬ (j : Int) = 0 := by omega
          go_wp2_with fail
          clear hor han hv1 ha hyw hsh
          have hw1 : IntKind.i64.wrap ((j : Int) + 1) = (j : Int) + 1 := by rw [IntKind.wrap_i64]; omega
          have hw2 : ((j : Int) + 1).toNat = j + 1 := by omega
          have hw3 : (0 : Int) ≤ (j : Int) + 1 := by omega
          have hw4 : (j : Int) + 1 ≤ (L : Int) := by omega
          have hw5 : j + 1 ≤ L := by omega
          have hw6 : j + 1 ≤ cap := by omega
          have hw7 : (j : Int) + 1 ≤ (cap : Int) := by omega
          have hw8 : ¬ (L : Int) < (j : Int) + 1 := by omega
          have hw9 : ¬ (j : Int) + 1 < 0 := by omega
          go_quiet (fail)
          go_wp2
          by_cases hx0 : x = 0
          · rw [if_neg (by omega)] at HS
            have hbv : (((j : Int) == 0) || decide (0 < x)) = false := by simp [hj0, hx0]
            exact bodyPost_ret (results_3 Tryd.results18 _ _ _ _ (.bool false) rfl rfl (congrArg Value.bool hbv)) rfl (by rw [← HS.out]; exact ⟨_, _, _, _, nq, rfl, rfl⟩)
          · rw [if_pos (by omega)] at HS
            have hbv : (((j : Int) == 0) || decide (0 < x)) = true := by simp; omega
            exact bodyPost_ret (results_3 Tryd.results18 _ _ _ _ (.bool true) rfl rfl (congrArg Value.bool hbv)) rfl (by rw [← HS.out]; exact ⟨_, _, nq, by rw [hlen]; rfl, rfl, HSL.out nq, hv5⟩)
      · have hx8Z : ¬ (x : Int) < 128 := by omega
        rw [if_neg hx8Z] at HS
        go_wp2_with fail
        go_roundg (m - (j + 1))
        case measure => omega
        case rel => exact ⟨j + 1, v, by omega, by go_num, rfl, rfl, rfl, HVV.out, by rw [show 5 - (j + 1) = 4 - j by omega]; exact HS.out⟩
    · obtain rfl : m = j := by omega
      have hjZ : ¬ (m : Int) < 5 ∨ ((m : Int) < 5 ∧ ¬ (m : Int) < L) := by have := HM.out; omega
      have HN : Hid (R = none) := by
        show _ = _
        rw [← HS.out]
        have hm := HM.out
        have hl := HL.out
        rcases Nat.lt_or_ge 5 L with h | h
        · rw [show 5 - m = 0 by omega, szGo]
        · rw [List.drop_of_length_le (by omega)]
          obtain ⟨k, hk5⟩ : ∃ k, 5 - m = k ∨ 5 - m = k + 1 := ⟨5 - m, .inl rfl⟩
          cases h5 : 5 - m with
          | zero => rfl
          | succ k => rfl
      rcases hjZ with h1 | ⟨h1, h2⟩
      · go_wp2_with fail
        exact bodyPost_ret (results_3 Tryd.results18 _ _ _ _ _ rfl rfl rfl) rfl (by rw [HN.out]; exact ⟨0, _, _, _, 0, rfl, rfl⟩)
      · go_wp2_with fail
        exact bodyPost_ret (results_3 Tryd.results18 _ _ _ _ _ rfl rfl rfl) rfl (by rw [HN.out]; exact ⟨0, _, _, _, 0, rfl, rfl⟩)
set_option maxRecDepth 20000 in
set_option maxHeartbeats 1000000 in
theorem refSize_nil (a : Option Addr) (cap : Nat) (w : World) : Calls Tryd.prog 18 #[.slice a 0 cap] w (PostQ w none) := by
  go_enter Tryd.func18, Tryd.ntmps18
  go_wp2_with fail
  go_loop [6] (fun i => i = .int .i64 0) (fun _ => 0)
  case atStart => rfl
  case round =>
    obtain rfl := hrel
    go_wp2_with fail
    exact bodyPost_ret (results_3 Tryd.results18 _ _ _ _ _ rfl rfl rfl) rfl ⟨0, _, _, _, 0, rfl, rfl⟩
theorem refSize_any (a : Option Addr) (cap : Nat) (bs : List Int) (w : World) (hz : IsB bs) (hl : bs.length ≤ 400000) (h : Sl w a cap bs) : Calls Tryd.prog 18 #[.slice a bs.length cap] w (PostQ w (sz bs)) := by
  by_cases h0 : bs.length = 0
  · obtain rfl : bs = [] := List.eq_nil_of_length_eq_zero h0
    exact refSize_nil a cap w
  · obtain ⟨b, off, rfl, hb, hat⟩ := h.at_ (by omega)
    exact refSize_some b off cap bs w hz hl (by omega) hat hb h.capl
def PostQ2 (w : World) (r : Option (Nat × Nat × List Int)) (ev : Ending) (w' : World) : Prop :=
  match r with
  | none => ev = .returned (.tuple #[.int .i64 0, .int .i64 0, .slice none 0 0, .bool false]) ∧ ∃ q, w' = w.drewN q
  | some (n, m, l) => ∃ a cap q, ev = .returned (.tuple #[.int .i64 n, .int .i64 m, .slice a l.length cap, .bool true]) ∧ w' = w.drewN q ∧ Sl w' a cap l ∧ n < 34359738368 ∧ m < 34359738368
set_option maxRecDepth 20000 in
set_option maxHeartbeats 1000000 in
theorem refSizes_any (a : Option Addr) (cap : Nat) (bs : List Int) (w : World) (hz : IsB bs) (hl : bs.length ≤ 400000) (h : Sl w a cap bs) : Calls Tryd.prog 11 #[.slice a bs.length cap] w (PostQ2 w (szs bs)) := by
  have R1 := refSize_any a cap bs w hz hl h
  cases e1 : sz bs with
  | none =>
    have HS : Hid (szs bs = none) := by show _ = _; unfold szs; rw [e1]
    rw [HS.out]
    rw [e1] at R1
    go_enter Tryd.func11, Tryd.ntmps11
    go_wp2_with (go_at_call 18; refine R1.mono ?_; clear R1; rintro ev w1 ⟨n0, a0, k0, cap0, q, rfl, rfl⟩)
    exact bodyPost_ret (results_4 Tryd.results11 _ _ _ _ _ _ rfl rfl rfl rfl) rfl ⟨rfl, q, rfl⟩
  | some nr =>
    obtain ⟨n, r⟩ := nr
    rw [e1] at R1
    obtain ⟨hrB, hrl⟩ := sz_isB e1 hz
    cases e2 : sz r with
    | none =>
      have HS : Hid (szs bs = none) := by show _ = _; unfold szs; rw [e1]; simp only; rw [e2]
      rw [HS.out]
      go_enter Tryd.func11, Tryd.ntmps11
      go_wp2_with (first | (go_at_call 18; refine R1.mono ?_; clear R1; rintro ev w1 ⟨a1, cap1, q, rfl, rfl, hS1, hn1⟩; have R2 := refSize_any a1 cap1 r _ hrB (by omega) hS1; rw [e2] at R2) | (go_at_call 18; refine R2.mono ?_; clear R2; rintro ev w2 ⟨n0, a0, k0, cap0, q2, rfl, rfl⟩))
      exact bodyPost_ret (results_4 Tryd.results11 _ _ _ _ _ _ rfl rfl rfl rfl) rfl ⟨rfl, q + q2, rfl⟩
    | some nr2 =>
      obtain ⟨m, r2⟩ := nr2
      have HS : Hid (szs bs = some (n, m, r2)) := by show _ = _; unfold szs; rw [e1]; simp only; rw [e2]
      rw [HS.out]
      go_enter Tryd.func11, Tryd.ntmps11
      go_wp2_with (first | (go_at_call 18; refine R1.mono ?_; clear R1; rintro ev w1 ⟨a1, cap1, q, rfl, rfl, hS1, hn1⟩; have R2 := refSize_any a1 cap1 r _ hrB (by omega) hS1; rw [e2] at R2) | (go_at_call 18; refine R2.mono ?_; clear R2; rintro ev w2 ⟨a2, cap2, q2, rfl, rfl, hS2, hn2⟩; have HS2 : Hid _ := hS2))
      exact bodyPost_ret (results_4 Tryd.results11 _ _ _ _ _ _ rfl rfl rfl rfl) rfl ⟨a2, cap2, q + q2, rfl, rfl, by rw [← drewN2]; exact HS2.out, hn1, hn2⟩
end Go.Proofs.YtblegkefeiefjaaDoor
