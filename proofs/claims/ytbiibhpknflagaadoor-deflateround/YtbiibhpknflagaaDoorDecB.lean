/- 'decoder$1', where no symbol is found. -/
import Derived.Test.YtbiibhpknflagaaDoorDecA
namespace Go.Proofs.YtbiibhpknflagaaDoor
open Go.RowKit Plain

set_option maxHeartbeats 1000000 in
theorem dec_bad (E : Env) (L : Loc) (cnt srt : List Nat) (p : Nat) (v : Value) (w : World) (hz : IsB E.zs) (hl : E.zs.length ≤ 400000) (h : Rd w E p v) (hc : CodeAt w E v L cnt srt) (hok : CodeOK cnt srt)
    (hd : dec cnt srt E.zs p = none) :
    Calls Tryd.prog 80 #[.pointer (some ⟨L.bs, 0, none⟩), .pointer (some ⟨L.bc, 0, none⟩), .pointer (some ⟨L.bd, 0, none⟩)] w fun e w' => e = .panicked (errv 10) ∧ Kept E.S (.bool true) (.bool true) w w' := by
  have HD : Hid (decGo cnt srt E.zs 15 1 0 0 0 p = none) := hd
  clear hd
  go_enter Tryd.func80, Tryd.ntmps80
  go_wp2
  go_loopw [4, 5, 6, 7] (fun b f q i wr => ∃ n bn fn pn : Nat, 1 ≤ n ∧ n ≤ 16 ∧ i = .int .i64 n ∧ b = .int .i64 bn ∧ f = .int .i64 fn ∧ q = .int .i64 pn ∧ fn ≤ bn ∧ bn < 2 ^ (n - 1) ∧ pn ≤ 400 ∧
      Hid (pn = below cnt n) ∧ Hid (decGo cnt srt E.zs (16 - n) n bn fn pn (p + (n - 1)) = none) ∧ Hid (Rd wr E (p + (n - 1)) v) ∧ Hid (Kept E.S (.bool true) (.bool true) w wr)) (fun _ _ _ i _ => 16 - (intOf i).toNat)
  case atStart => exact ⟨1, 0, 0, 0, by omega, by omega, rfl, rfl, rfl, rfl, by omega, by simp, by omega, rfl, HD, h, Kept.refl _ _ _⟩
  case round =>
    obtain ⟨n, bn, fn, pn, hn1, hn2, rfl, rfl, rfl, rfl, hfb, hb2, hpn, HP, HDn, HR, HK⟩ := hrel
    by_cases hn : n = 16
    · subst hn
      go_wp2
      exact ⟨rfl, rfl, HK.out⟩
    · have hbn : bn < 16384 := Nat.lt_of_lt_of_le hb2 (by have := Nat.pow_le_pow_right (n := 2) (by omega) (show n - 1 ≤ 14 by omega); simpa using this)
      have hle : n ≤ 15 := by omega
      have E1 := HDn.out
      rw [show 16 - n = (15 - n) + 1 from by omega, decGo] at E1
      have hcw : CodeAt wr E v L cnt srt := hc.kept (HK.out.weak v)
      have cs := hcw.s
      have hle' : (n : Int) ≤ 15 := by omega
      by_cases hroom : 8 * E.zs.length < p + (n - 1) + 1
      · clear E1
        go_wp2_with fail
        refine (number_bad E (p + (n - 1)) 1 v wr hz hl (by omega) HR.out hroom).mono ?_
        rintro e w1 ⟨rfl, hK1⟩
        exact ⟨rfl, rfl, HK.out.trans hK1⟩
      rw [if_neg hroom] at E1
      have g1 := getB_one E.zs (p + (n - 1))
      have hsm := hok.small n
      obtain ⟨g, HG⟩ : ∃ g, Hid (g = getB E.zs (p + (n - 1)) 1) := ⟨_, rfl⟩
      obtain ⟨c, HC⟩ : ∃ c, Hid (c = cnt.getD n 0) := ⟨_, rfl⟩
      rw [← HG.out] at g1 E1
      rw [← HC.out] at hsm E1
      have HE1 : Hid (_ = none) := E1
      clear E1
      go_wp2_with fail
      refine (number_ok E (p + (n - 1)) 1 v wr hz hl (by omega) HR.out (by omega)).mono ?_
      rintro e w1 ⟨rfl, hR1, hK1⟩
      rw [← HG.out]
      have HR1 : Hid (Rd w1 E (p + (n - 1) + 1) v) := hR1
      have HK1 : Hid (Kept E.S (.bool true) (.bool true) w w1) := HK.out.trans hK1
      have hc1 : CodeAt w1 E v L cnt srt := hcw.kept (hK1.weak v)
      have cd := hc1.d
      have cn := hc1.c n (by omega)
      rw [← HC.out] at cn
      clear hR1 hK1 cs
      by_cases hlt : 2 * bn + g - 2 * fn < c
      · exact absurd HE1.out (by rw [if_pos hlt]; simp)
      · have E2 := HE1.out
        have hltZ : ¬ 2 * (bn : Int) + g - fn * 2 < c := by omega
        rw [if_neg hlt] at E2
        have HE2 : Hid (_ = none) := E2
        have hpw : 2 ^ (n + 1 - 1) = 2 * 2 ^ (n - 1) := by rw [show n + 1 - 1 = (n - 1) + 1 from by omega, Nat.pow_succ]; omega
        have hb3 : 2 * bn + g < 2 ^ (n + 1 - 1) := by omega
        have HP1 : Hid (pn + c = below cnt (n + 1)) := by show _ = _; rw [below_succ cnt n hn1, ← HC.out, ← HP.out]
        have hp4 : pn + c ≤ 400 := by have := below_mono cnt (n + 1) 16 (by omega); rw [← HP1.out, hok.all] at this; have := hok.len; omega
        clear E2 hpw HDn HD
        go_wp2
        go_roundw
        case rel => exact ⟨n + 1, 2 * bn + g, 2 * fn + c, pn + c, by omega, by omega, by go_num, by go_num, by go_num, by go_num, by omega, hb3, hp4, HP1, by show _ = _; rw [show 16 - (n + 1) = 15 - n from by omega, show p + (n + 1 - 1) = p + (n - 1) + 1 from by omega]; exact HE2.out, by show Rd _ _ _ _; rw [show p + (n + 1 - 1) = p + (n - 1) + 1 from by omega]; exact HR1.out, HK1⟩
        case measure => simp [intOf]; omega
end Go.Proofs.YtbiibhpknflagaaDoor
