/- 'strings.Repeat' of a nought; 'sizeOf'. -/
import Derived.Test.YtijeogdnjeamaaaGreatDoorWbA
namespace Go.Proofs.YtijeogdnjeamaaaGreatDoor
open Go.RowKit
set_option linter.unusedVariables false
set_option linter.unusedSimpArgs false
theorem hpi (r : List UInt8) (x : UInt8) (w : World) : Calls Tryz.prog 114 #[.string ⟨(x :: r).toArray⟩, .string ⟨#[48]⟩] w fun e w' => e = .returned (.bool (x == 48)) ∧ w' = w := by
  obtain ⟨S, HS⟩ : ∃ S : ByteArray, Hid (⟨(x :: r).toArray⟩ = S) := ⟨_, hid rfl⟩
  obtain ⟨n, HN⟩ : ∃ n, Hid (r.length + 1 = n) := ⟨_, rfl⟩
  have hsz : S.size = n := by rw [← HS.out, txt_len, List.length_cons]; exact HN.out
  have hn : 1 ≤ n := by rw [← HN.out]; omega
  have hni : (1 : Int) ≤ (n : Int) := by omega
  have h1 : (⟨#[48]⟩ : ByteArray).size = 1 := rfl
  obtain ⟨T, HT⟩ : ∃ T : ByteArray, Hid (⟨[x].toArray⟩ = T) := ⟨_, hid rfl⟩
  have hsl : ∀ w1 : World, (Instr.slice 9 (.string S) none (some (.int .i64 1)) none).run Tryz.prog w1 = .ok (.string T) w1 := fun w1 => by rw [← HS.out, ← HT.out]; exact slc_to (x :: r) 1 (by simp) w1
  have hq : (T.toList == [48]) = (x == 48) := by
    rw [← HT.out]
    simp
  obtain ⟨bb, HBB⟩ : ∃ bb, Hid ((x == 48) = bb) := ⟨_, rfl⟩
  rw [HBB.out] at hq
  rw [HS.out, HBB.out]
  go_enter Tryz.func114, Tryz.ntmps114
  go_wp2
  go_ret
  exact ⟨by rw [← hq]; rfl, rfl⟩
theorem hpc (A : ByteArray) (r : List UInt8) (x : UInt8) (hA : A = ⟨(x :: r).toArray⟩) (w : World) : Calls Tryz.prog 89 #[.string A, .string ⟨#[48]⟩] w fun e w' => e = .returned (.bool (x == 48)) ∧ w' = w := by
  subst hA
  have HF := hid (hpi r x w)
  obtain ⟨S, HS⟩ : ∃ S : ByteArray, Hid (⟨(x :: r).toArray⟩ = S) := ⟨_, hid rfl⟩
  rw [HS.out] at HF ⊢
  go_enter Tryz.func89, Tryz.ntmps89
  go_wp2_with fail
  refine HF.out.mono ?_
  rintro e w1 ⟨rfl, hw⟩
  rw [hw]
  go_wp2
  go_ret
  exact ⟨rfl, rfl⟩
theorem mul64 (k : Nat) (hk : k ≤ 3) (w : World) : Calls Tryz.prog 157 #[.int .u64 1, .int .u64 k] w fun e w' => e = .returned (.tuple #[.int .u64 0, .int .u64 k]) ∧ w' = w := by
  rcases (show k = 0 ∨ k = 1 ∨ k = 2 ∨ k = 3 by omega) with rfl | rfl | rfl | rfl
  all_goals
    go_enter Tryz.func157, Tryz.ntmps157
    go_wp2
    go_ret2
    exact ⟨rfl, rfl⟩
theorem mul (k : Nat) (hk : k ≤ 3) (w : World) : Calls Tryz.prog 137 #[.int .u64 1, .int .u64 k] w fun e w' => e = .returned (.tuple #[.int .u64 0, .int .u64 k]) ∧ w' = w := by
  have HF := hid (mul64 k hk w)
  have hw : IntKind.u64.wrap (k : Int) = k := wrap_u64 k (by omega)
  go_enter Tryz.func137, Tryz.ntmps137
  go_wp2_with fail
  refine HF.out.mono ?_
  rintro e w1 ⟨rfl, hw1⟩
  rw [hw1]
  go_wp2
  go_ret2
  exact ⟨rfl, rfl⟩
set_option maxRecDepth 100000 in
set_option maxHeartbeats 4000000 in
theorem rep (k : Nat) (h1 : 1 ≤ k) (hk : k ≤ 3) (w : World) : Calls Tryz.prog 118 #[.string ⟨#[48]⟩, .int .i64 k] w fun e w' => e = .returned (.string ⟨(List.replicate k (48 : UInt8)).toArray⟩) ∧ w' = w := by
  by_cases e1 : k = 1
  · subst e1
    go_enter Tryz.func118, Tryz.ntmps118
    go_wp2
    go_ret
    exact ⟨rfl, rfl⟩
  · have HM := hid (mul k hk w)
    have hk0 : ((k : Int) == 0) = false := by simp; omega
    have hk1 : ((k : Int) == 1) = false := by simp; omega
    have hkn : ¬ (k : Int) < 0 := by omega
    have hkw : IntKind.u64.wrap (k : Int) = k := wrap_u64 k (by omega)
    have hkb : ¬ (9223372036854775807 : Int) < (k : Int) := by omega
    have hkl : (k : Int) ≤ 128 := by omega
    have hkl2 : (k : Int) ≤ 64 := by omega
    have hs1 : (⟨#[48]⟩ : ByteArray).size = 1 := rfl
    have hix : ∀ w1 : World, (Instr.index 9 (.string ⟨#[48]⟩) (.int .i64 0)).run Tryz.prog w1 = .ok (.int .u8 48) w1 := fun w1 => by kernel_rfl
    obtain ⟨T, HT⟩ : ∃ T : ByteArray, Hid (⟨(List.replicate k (48 : UInt8)).toArray⟩ = T) := ⟨_, hid rfl⟩
    have hsl : ∀ w1 : World, (Instr.slice 9 (.string ⟨#[48, 48, 48, 48, 48, 48, 48, 48, 48, 48, 48, 48, 48, 48, 48, 48, 48, 48, 48, 48, 48, 48, 48, 48, 48, 48, 48, 48, 48, 48, 48, 48, 48, 48, 48, 48, 48, 48, 48, 48, 48, 48, 48, 48, 48, 48, 48, 48, 48, 48, 48, 48, 48, 48, 48, 48, 48, 48, 48, 48, 48, 48, 48, 48]⟩) none (some (.int .i64 k)) none).run Tryz.prog w1 = .ok (.string T) w1 := fun w1 => by
      have := slc_to (List.replicate 64 (48 : UInt8)) k (by simp; omega) w1
      rw [List.take_replicate, Nat.min_eq_left (by omega), HT.out] at this
      exact this
    rw [HT.out]
    go_enter Tryz.func118, Tryz.ntmps118
    go_wp2_with fail
    refine HM.out.mono ?_
    rintro e w1 ⟨rfl, hw1⟩
    rw [hw1]
    clear hw1
    go_wp2_with fail
    refine (hpc _ (List.replicate 127 32) 32 rfl w).mono ?_
    rintro e w2 ⟨rfl, hw2⟩
    rw [hw2]
    clear hw2
    go_wp2_with fail
    refine (hpc _ (List.replicate 127 45) 45 rfl w).mono ?_
    rintro e w2 ⟨rfl, hw2⟩
    rw [hw2]
    clear hw2
    go_wp2_with fail
    refine (hpc _ (List.replicate 63 48) 48 rfl w).mono ?_
    rintro e w2 ⟨rfl, hw2⟩
    rw [hw2]
    clear hw2
    go_wp2
    go_ret
    exact ⟨rfl, rfl⟩
/-- A size in four digits. -/
def hx4 (m : Nat) : List UInt8 := [dc (m / 4096 % 16), dc (m / 256 % 16), dc (m / 16 % 16), dc (m % 16)]
theorem h16_4 (m : Nat) (h : m < 65536) : List.replicate (4 - (h16 m).length) 48 ++ h16 m = hx4 m ∧ 1 ≤ (h16 m).length ∧ (h16 m).length ≤ 4 := by
  have z : dc 0 = 48 := rfl
  by_cases h1 : m < 16
  · rw [h16_small m h1]
    refine ⟨?_, by simp, by simp⟩
    unfold hx4
    rw [show m / 4096 % 16 = 0 by omega, show m / 256 % 16 = 0 by omega, show m / 16 % 16 = 0 by omega, show m % 16 = m by omega, z]
    rfl
  · rw [h16_big m h1]
    by_cases h2 : m / 16 < 16
    · rw [h16_small _ h2]
      refine ⟨?_, by simp, by simp⟩
      unfold hx4
      rw [show m / 4096 % 16 = 0 by omega, show m / 256 % 16 = 0 by omega, show m / 16 % 16 = m / 16 by omega, z]
      rfl
    · rw [h16_big _ h2]
      by_cases h3 : m / 16 / 16 < 16
      · rw [h16_small _ h3]
        refine ⟨?_, by simp, by simp⟩
        unfold hx4
        rw [show m / 4096 % 16 = 0 by omega, show m / 256 % 16 = m / 16 / 16 by omega, z]
        rfl
      · rw [h16_big _ h3, h16_small _ (show m / 16 / 16 / 16 < 16 by omega)]
        refine ⟨?_, by simp, by simp⟩
        unfold hx4
        rw [show m / 4096 % 16 = m / 16 / 16 / 16 by omega, show m / 256 % 16 = m / 16 / 16 % 16 by omega]
        rfl
/-- What stands ahead of a line of n bytes. -/
def szT (n : Nat) : List UInt8 := if n = 0 then [48, 48, 48, 48] else hx4 (n + 4)
set_option maxRecDepth 20000 in
theorem sizeOf_any (a : Option Addr) (n cap : Nat) (hn : n ≤ 4091) (w : World) (h : Db w) : Calls Tryz.prog 94 #[.slice a n cap] w fun e w' => e = .returned (.string ⟨(szT n).toArray⟩) ∧ Below w.heap.size w w' := by
  by_cases h0 : n = 0
  · subst h0
    go_enter Tryz.func94, Tryz.ntmps94
    go_wp2
    go_ret
    exact ⟨rfl, Below.refl _ _⟩
  · obtain ⟨q, HQ⟩ : ∃ q, Hid (n + 4 = q) := ⟨_, rfl⟩
    obtain ⟨e4, l1, l4⟩ := h16_4 q (by rw [← HQ.out]; omega)
    have hq : (n : Int) + 4 = (q : Int) := by rw [← HQ.out]; omega
    have hn0 : ((n : Int) == 0) = false := by simp [h0]
    have HF := hid (fmtI16 q (by rw [← HQ.out]; omega) w h)
    have HR : Hid (szT n = List.replicate (4 - (h16 q).length) 48 ++ h16 q) := hid (by rw [e4]; unfold szT; rw [if_neg h0, HQ.out])
    obtain ⟨L, HL⟩ : ∃ L, Hid ((h16 q).length = L) := ⟨_, rfl⟩
    obtain ⟨D, HD⟩ : ∃ D : ByteArray, Hid (⟨(h16 q).toArray⟩ = D) := ⟨_, hid rfl⟩
    have hds : D.size = L := by rw [← HD.out, txt_len]; exact HL.out
    rw [HD.out] at HF
    rw [HL.out] at l1 l4
    have hqb : q ≤ 5000 := by rw [← HQ.out]; omega
    -- at most three digits
    have l3 : L ≤ 3 := by
      rw [← HL.out]
      have := h16_len 2 q (by have : (16 : Nat) ^ (2 + 1) = 4096 := by decide
                              rw [this, ← HQ.out]; omega)
      exact this
    obtain ⟨k, HK⟩ : ∃ k, Hid (4 - L = k) := ⟨_, rfl⟩
    have hk1 : 1 ≤ k := by rw [← HK.out]; omega
    have hk3 : k ≤ 3 := by rw [← HK.out]; omega
    have hsub : (4 : Int) - (L : Int) = (k : Int) := by rw [← HK.out]; omega
    have HR2 := hid (fun W => rep k hk1 hk3 W)
    obtain ⟨Z, HZ⟩ : ∃ Z : ByteArray, Hid (⟨(List.replicate k (48 : UInt8)).toArray⟩ = Z) := ⟨_, hid rfl⟩
    rw [HZ.out] at HR2
    have hcat : Z ++ D = ⟨(szT n).toArray⟩ := by
      rw [← HZ.out, ← HD.out, str_app, HR.out, HL.out, HK.out]
    have hZs : Z.size = k := by rw [← HZ.out, txt_len, List.length_replicate]
    obtain ⟨T, HT⟩ : ∃ T : ByteArray, Hid (⟨(szT n).toArray⟩ = T) := ⟨_, hid rfl⟩
    rw [HT.out] at hcat ⊢
    clear e4 h0
    go_enter Tryz.func94, Tryz.ntmps94
    go_wp2_with fail
    refine HF.out.mono ?_
    rintro e w1 ⟨rfl, hb1⟩
    have HB1 := hid hb1
    clear hb1
    go_wp2_with fail
    refine (HR2.out w1).mono ?_
    rintro e w2 ⟨rfl, hw2⟩
    rw [hw2]
    clear hw2
    go_wp2
    go_ret
    exact ⟨rfl, HB1.out⟩
end Go.Proofs.YtijeogdnjeamaaaGreatDoor
