/- 'strings.TrimPrefix', 'strings.TrimSuffix'. -/
import Derived.Test.YtijeogdnjeamaaaGreatDoorWcC
namespace Go.Proofs.YtijeogdnjeamaaaGreatDoor
open Go.RowKit
set_option linter.unusedVariables false
set_option linter.unusedSimpArgs false
theorem sV_out (s : Str) : sV s = .string ⟨s.toArray⟩ := rfl
theorem beq_txt {x y : Str} {X Y : ByteArray} (hX : (⟨x.toArray⟩ : ByteArray) = X) (hY : (⟨y.toArray⟩ : ByteArray) = Y) : (X.toList == Y.toList) = (x == y) := by
  rw [← hX, ← hY]
  simp
theorem hasPre (s p : Str) (w : World) : Calls Tryz.prog 114 #[sV s, sV p] w fun e w' => e = .returned (.bool (s.take p.length == p)) ∧ w' = w := by
  rw [sV_out, sV_out]
  obtain ⟨S, HS⟩ : ∃ S : ByteArray, Hid (⟨s.toArray⟩ = S) := ⟨_, hid rfl⟩
  obtain ⟨T, HT⟩ : ∃ S : ByteArray, Hid (⟨p.toArray⟩ = S) := ⟨_, hid rfl⟩
  obtain ⟨n, HN⟩ : ∃ n, Hid (s.length = n) := ⟨_, rfl⟩
  obtain ⟨m, HM⟩ : ∃ n, Hid (p.length = n) := ⟨_, rfl⟩
  have hsz : S.size = n := by rw [← HS.out, txt_len]; exact HN.out
  have hpz : T.size = m := by rw [← HT.out, txt_len]; exact HM.out
  obtain ⟨bb, HBB⟩ : ∃ bb, Hid ((s.take p.length == p) = bb) := ⟨_, rfl⟩
  by_cases hle : m ≤ n
  · have hli : (m : Int) ≤ (n : Int) := by omega
    obtain ⟨R, HR⟩ : ∃ S : ByteArray, Hid (⟨(s.take m).toArray⟩ = S) := ⟨_, hid rfl⟩
    have hsl : ∀ w1 : World, (Instr.slice 9 (.string S) none (some (.int .i64 m)) none).run Tryz.prog w1 = .ok (.string R) w1 := fun w1 => by rw [← HS.out, ← HR.out]; exact slc_to s m (by rw [HN.out]; exact hle) w1
    have hq : (R.toList == T.toList) = bb := by rw [beq_txt HR.out HT.out, ← HBB.out, HM.out]
    rw [HS.out, HT.out, HBB.out]
    go_enter Tryz.func114, Tryz.ntmps114
    go_wp2
    go_ret
    exact ⟨by rw [← hq]; rfl, rfl⟩
  · have hli : ¬ (m : Int) ≤ (n : Int) := by omega
    have hb : bb = false := by
      rw [← HBB.out]
      have : s.take p.length ≠ p := fun h => by
        have h2 := congrArg List.length h
        rw [List.length_take, HN.out, HM.out] at h2
        omega
      simp [this]
    rw [HS.out, HT.out, HBB.out, hb]
    go_enter Tryz.func114, Tryz.ntmps114
    go_wp2
    go_ret
    exact ⟨rfl, rfl⟩
def trP (p s : Str) : Str := if s.take p.length = p then s.drop p.length else s
theorem trimPre_in (s p : Str) (w : World) : Calls Tryz.prog 121 #[sV s, sV p] w fun e w' => e = .returned (sV (trP p s)) ∧ w' = w := by
  have HF := hid (hasPre s p w)
  rw [sV_out, sV_out] at HF
  rw [sV_out, sV_out, sV_out]
  obtain ⟨S, HS⟩ : ∃ S : ByteArray, Hid (⟨s.toArray⟩ = S) := ⟨_, hid rfl⟩
  obtain ⟨T, HT⟩ : ∃ S : ByteArray, Hid (⟨p.toArray⟩ = S) := ⟨_, hid rfl⟩
  obtain ⟨n, HN⟩ : ∃ n, Hid (s.length = n) := ⟨_, rfl⟩
  obtain ⟨m, HM⟩ : ∃ n, Hid (p.length = n) := ⟨_, rfl⟩
  have hsz : S.size = n := by rw [← HS.out, txt_len]; exact HN.out
  have hpz : T.size = m := by rw [← HT.out, txt_len]; exact HM.out
  by_cases hp : s.take p.length = p
  · have hb : (s.take p.length == p) = true := by simp [hp]
    have hle : m ≤ n := by
      have h2 := congrArg List.length hp
      rw [List.length_take, HN.out, HM.out] at h2
      omega
    obtain ⟨R, HR⟩ : ∃ S : ByteArray, Hid (⟨(trP p s).toArray⟩ = S) := ⟨_, hid rfl⟩
    have hsl : ∀ w1 : World, (Instr.slice 9 (.string S) (some (.int .i64 m)) none none).run Tryz.prog w1 = .ok (.string R) w1 := fun w1 => by
      rw [← HS.out, ← HR.out, trP, if_pos hp, HM.out]; exact slc_from s m (by rw [HN.out]; exact hle) w1
    rw [HS.out, HT.out, hb] at HF
    rw [HS.out, HT.out, HR.out]
    clear hp hb
    go_enter Tryz.func121, Tryz.ntmps121
    go_wp2_with fail
    refine HF.out.mono ?_
    rintro e w1 ⟨rfl, hw⟩
    rw [hw]
    go_wp2
    go_ret
    exact ⟨rfl, rfl⟩
  · have hb : (s.take p.length == p) = false := by simp [hp]
    have ht : trP p s = s := by rw [trP, if_neg hp]
    rw [HS.out, HT.out, hb] at HF
    rw [ht, HS.out, HT.out]
    clear hp hb ht
    go_enter Tryz.func121, Tryz.ntmps121
    go_wp2_with fail
    refine HF.out.mono ?_
    rintro e w1 ⟨rfl, hw⟩
    rw [hw]
    go_wp2
    go_ret
    exact ⟨rfl, rfl⟩
theorem trimPre (s p : Str) (w : World) : Calls Tryz.prog 101 #[sV s, sV p] w fun e w' => e = .returned (sV (trP p s)) ∧ w' = w := by
  have HF := hid (trimPre_in s p w)
  obtain ⟨S, HS⟩ : ∃ S, Hid (sV s = S) := ⟨_, hid rfl⟩
  obtain ⟨T, HT⟩ : ∃ S, Hid (sV p = S) := ⟨_, hid rfl⟩
  obtain ⟨R, HR⟩ : ∃ S, Hid (sV (trP p s) = S) := ⟨_, hid rfl⟩
  rw [HS.out, HT.out, HR.out] at HF
  rw [HS.out, HT.out, HR.out]
  go_enter Tryz.func101, Tryz.ntmps101
  go_wp2_with fail
  refine HF.out.mono ?_
  rintro e w1 ⟨rfl, hw⟩
  rw [hw]
  go_wp2
  go_ret
  exact ⟨rfl, rfl⟩
theorem hasSuf (s p : Str) (hl : s.length ≤ 1000000) (w : World) : Calls Tryz.prog 92 #[sV s, sV p] w fun e w' => e = .returned (.bool (decide (p.length ≤ s.length) && (s.drop (s.length - p.length) == p))) ∧ w' = w := by
  rw [sV_out, sV_out]
  obtain ⟨S, HS⟩ : ∃ S : ByteArray, Hid (⟨s.toArray⟩ = S) := ⟨_, hid rfl⟩
  obtain ⟨T, HT⟩ : ∃ S : ByteArray, Hid (⟨p.toArray⟩ = S) := ⟨_, hid rfl⟩
  obtain ⟨n, HN⟩ : ∃ n, Hid (s.length = n) := ⟨_, rfl⟩
  obtain ⟨m, HM⟩ : ∃ n, Hid (p.length = n) := ⟨_, rfl⟩
  have hsz : S.size = n := by rw [← HS.out, txt_len]; exact HN.out
  have hpz : T.size = m := by rw [← HT.out, txt_len]; exact HM.out
  rw [HN.out] at hl
  rw [HN.out, HM.out]
  obtain ⟨bb, HBB⟩ : ∃ bb, Hid ((s.drop (n - m) == p) = bb) := ⟨_, rfl⟩
  by_cases hle : m ≤ n
  · have hli : (m : Int) ≤ (n : Int) := by omega
    obtain ⟨d, HD⟩ : ∃ d, Hid (n - m = d) := ⟨_, rfl⟩
    have hdi : (n : Int) - (m : Int) = (d : Int) := by rw [← HD.out]; omega
    have hdn : d ≤ n := by rw [← HD.out]; omega
    obtain ⟨R, HR⟩ : ∃ S : ByteArray, Hid (⟨(s.drop d).toArray⟩ = S) := ⟨_, hid rfl⟩
    have hsl : ∀ w1 : World, (Instr.slice 9 (.string S) (some (.int .i64 d)) none none).run Tryz.prog w1 = .ok (.string R) w1 := fun w1 => by rw [← HS.out, ← HR.out]; exact slc_from s d (by rw [HN.out]; exact hdn) w1
    have hq : (R.toList == T.toList) = bb := by rw [beq_txt HR.out HT.out, ← HBB.out, HD.out]
    have hdc : decide (m ≤ n) = true := by simp [hle]
    rw [HS.out, HT.out, HBB.out, hdc, Bool.true_and]
    clear hdc
    go_enter Tryz.func92, Tryz.ntmps92
    go_wp2
    go_ret
    exact ⟨by rw [← hq]; rfl, rfl⟩
  · have hli : ¬ (m : Int) ≤ (n : Int) := by omega
    have hdc : decide (m ≤ n) = false := by simp [hle]
    rw [HS.out, HT.out, hdc, Bool.false_and]
    clear hdc
    go_enter Tryz.func92, Tryz.ntmps92
    go_wp2
    go_ret
    exact ⟨rfl, rfl⟩
def trS (p s : Str) : Str := if p.length ≤ s.length ∧ s.drop (s.length - p.length) = p then s.take (s.length - p.length) else s
theorem trimSuf_in (s p : Str) (hl : s.length ≤ 1000000) (w : World) : Calls Tryz.prog 142 #[sV s, sV p] w fun e w' => e = .returned (sV (trS p s)) ∧ w' = w := by
  have HF := hid (hasSuf s p hl w)
  rw [sV_out, sV_out] at HF
  rw [sV_out, sV_out, sV_out]
  obtain ⟨S, HS⟩ : ∃ S : ByteArray, Hid (⟨s.toArray⟩ = S) := ⟨_, hid rfl⟩
  obtain ⟨T, HT⟩ : ∃ S : ByteArray, Hid (⟨p.toArray⟩ = S) := ⟨_, hid rfl⟩
  obtain ⟨n, HN⟩ : ∃ n, Hid (s.length = n) := ⟨_, rfl⟩
  obtain ⟨m, HM⟩ : ∃ n, Hid (p.length = n) := ⟨_, rfl⟩
  have hsz : S.size = n := by rw [← HS.out, txt_len]; exact HN.out
  have hpz : T.size = m := by rw [← HT.out, txt_len]; exact HM.out
  rw [HN.out] at hl
  by_cases hp : p.length ≤ s.length ∧ s.drop (s.length - p.length) = p
  · have hb : (decide (p.length ≤ s.length) && (s.drop (s.length - p.length) == p)) = true := by simp [hp.1, hp.2]
    obtain ⟨d, HD⟩ : ∃ d, Hid (n - m = d) := ⟨_, rfl⟩
    have hmn : m ≤ n := by have := hp.1; rw [HN.out, HM.out] at this; exact this
    have hdi : (n : Int) - (m : Int) = (d : Int) := by rw [← HD.out]; omega
    have hdn : d ≤ n := by rw [← HD.out]; omega
    obtain ⟨R, HR⟩ : ∃ S : ByteArray, Hid (⟨(trS p s).toArray⟩ = S) := ⟨_, hid rfl⟩
    have hsl : ∀ w1 : World, (Instr.slice 9 (.string S) none (some (.int .i64 d)) none).run Tryz.prog w1 = .ok (.string R) w1 := fun w1 => by
      rw [← HS.out, ← HR.out, trS, if_pos hp, HM.out, HN.out, HD.out]; exact slc_to s d (by rw [HN.out]; exact hdn) w1
    rw [HS.out, HT.out, hb] at HF
    rw [HS.out, HT.out, HR.out]
    clear hp hb
    go_enter Tryz.func142, Tryz.ntmps142
    go_wp2_with fail
    refine HF.out.mono ?_
    rintro e w1 ⟨rfl, hw⟩
    rw [hw]
    go_wp2
    go_ret
    exact ⟨rfl, rfl⟩
  · have hb : (decide (p.length ≤ s.length) && (s.drop (s.length - p.length) == p)) = false := by
      by_cases h1 : p.length ≤ s.length
      · have h2 : ¬ s.drop (s.length - p.length) = p := fun h => hp ⟨h1, h⟩
        simp [h2]
      · simp [h1]
    have ht : trS p s = s := by rw [trS, if_neg hp]
    rw [HS.out, HT.out, hb] at HF
    rw [ht, HS.out, HT.out]
    clear hp hb ht
    go_enter Tryz.func142, Tryz.ntmps142
    go_wp2_with fail
    refine HF.out.mono ?_
    rintro e w1 ⟨rfl, hw⟩
    rw [hw]
    go_wp2
    go_ret
    exact ⟨rfl, rfl⟩
theorem trimSuf (s p : Str) (hl : s.length ≤ 1000000) (w : World) : Calls Tryz.prog 120 #[sV s, sV p] w fun e w' => e = .returned (sV (trS p s)) ∧ w' = w := by
  have HF := hid (trimSuf_in s p hl w)
  obtain ⟨S, HS⟩ : ∃ S, Hid (sV s = S) := ⟨_, hid rfl⟩
  obtain ⟨T, HT⟩ : ∃ S, Hid (sV p = S) := ⟨_, hid rfl⟩
  obtain ⟨R, HR⟩ : ∃ S, Hid (sV (trS p s) = S) := ⟨_, hid rfl⟩
  rw [HS.out, HT.out, HR.out] at HF
  rw [HS.out, HT.out, HR.out]
  go_enter Tryz.func120, Tryz.ntmps120
  go_wp2_with fail
  refine HF.out.mono ?_
  rintro e w1 ⟨rfl, hw⟩
  rw [hw]
  go_wp2
  go_ret
  exact ⟨rfl, rfl⟩
end Go.Proofs.YtijeogdnjeamaaaGreatDoor
