/- Package refs: 'IsName'. -/
import Derived.Test.YtcfgoiibmhkcnaaDoorNmB
namespace Go.Proofs.YtcfgoiibmhkcnaaDoor
open Go.RowKit
set_option linter.unusedVariables false
set_option linter.unusedSimpArgs false
/-- 7.1. -/
def isN (s : List UInt8) : Bool := (s == [72, 69, 65, 68]) || docOk s
theorem isN_not {s : List UInt8} (h : s ≠ [72, 69, 65, 68]) : isN s = prgOk s := by
  unfold isN
  rw [ok_same, show (s == [72, 69, 65, 68]) = false by simpa using h]
  rfl
set_option maxRecDepth 100000 in
set_option maxHeartbeats 2000000 in
theorem isName_any (s : List UInt8) (hs : s.length ≤ 100000) (w : World) (hm : Mx w) :
    Calls Tryd.prog 4 #[.string ⟨s.toArray⟩] w fun e w' => e = .returned (.bool (isN s)) ∧ Below w.heap.size w w' := by
  by_cases hh : s = [72, 69, 65, 68]
  · subst hh
    have HB : Hid (Below w.heap.size w w) := Below.refl _ _
    go_enter Tryd.func4, Tryd.ntmps4
    go_wp2
    go_ret
    exact ⟨rfl, HB.out⟩
  · obtain ⟨S, HS⟩ : ∃ S : ByteArray, Hid (⟨s.toArray⟩ = S) := ⟨_, rfl⟩
    obtain ⟨n, HN⟩ : ∃ n, Hid (s.length = n) := ⟨_, rfl⟩
    obtain ⟨G, HG⟩ : ∃ G, Hid (w.heap.size = G) := ⟨_, rfl⟩
    have hsz : S.size = n := by rw [← HS.out, txt_len]; exact HN.out
    have he : (S.toList == [72, 69, 65, 68]) = false := by rw [← HS.out, Lib.toList_data]; simpa using hh
    obtain ⟨b6, H6⟩ : ∃ b, Hid (((spl s).all partOk && ((spl s).headD [] == [114, 101, 102, 115]) && decide (1 < (spl s).length)) = b) := ⟨_, rfl⟩
    obtain ⟨b7, H7⟩ : ∃ b, Hid (s.all byteOk = b) := ⟨_, rfl⟩
    obtain ⟨b8, H8⟩ : ∃ b, Hid (Lib.contains s [46, 46] = b) := ⟨_, rfl⟩
    obtain ⟨b9, H9⟩ : ∃ b, Hid (Lib.contains s [64, 123] = b) := ⟨_, rfl⟩
    obtain ⟨b10, H10⟩ : ∃ b, Hid (Lib.hasSuffix s [46] = b) := ⟨_, rfl⟩
    have HR : Hid (isN s = (decide (n ≤ 60) && b6 && b7 && !b8 && !b9 && !b10)) := hid (by
      rw [isN_not hh, prgOk, H6.out, H7.out, H8.out, H9.out, H10.out, HN.out])
    have HM : Hid (∀ W, Below G w W → Mx W) := fun W hW => hm.below (by rw [HG.out]; exact hW)
    have C6 : Hid (Calls Tryd.prog 6 #[.string S] w fun e w' => e = .returned (.bool b6) ∧ Below G w w') := hid (by
      have := hasParts_any s hs w hm
      rw [HS.out, H6.out, HG.out] at this
      exact this)
    have C7 : Hid (∀ W, Calls Tryd.prog 7 #[.string S] W fun e w' => e = .returned (.bool b7) ∧ Below W.heap.size W w') := fun W => by
      rw [← HS.out, ← H7.out]; exact hasRunes_any s W
    have C8 : Hid (∀ W, Below G w W → Calls Tryd.prog 8 #[.string S, .string ⟨#[46, 46]⟩] W fun e w' => e = .returned (.bool b8) ∧ w' = W) := fun W hW => by
      rw [← HS.out, ← H8.out]; exact contains_any s [46, 46] hs W (HM.out W hW)
    have C9 : Hid (∀ W, Below G w W → Calls Tryd.prog 8 #[.string S, .string ⟨#[64, 123]⟩] W fun e w' => e = .returned (.bool b9) ∧ w' = W) := fun W hW => by
      rw [← HS.out, ← H9.out]; exact contains_any s [64, 123] hs W (HM.out W hW)
    have C10 : Hid (∀ W, Calls Tryd.prog 9 #[.string S, .string ⟨#[46]⟩] W fun e w' => e = .returned (.bool b10) ∧ w' = W) := fun W => by
      rw [← HS.out, ← H10.out]; exact hasSuffix_any s [46] hs W
    have HB0 : Hid (Below G w w) := Below.refl _ _
    have HGS : Hid (G ≤ w.heap.size) := hid (by rw [HG.out]; exact Nat.le_refl _)
    rw [HS.out, HR.out, HG.out]
    clear HR hm hh
    by_cases h60 : n ≤ 60
    · have h60i : (n : Int) ≤ 60 := by omega
      rw [decide_eq_true h60]
      cases b6 with
      | false =>
        go_enter Tryd.func4, Tryd.ntmps4
        go_wp2_with (first
          | (go_at_call 6; refine C6.out.mono ?_; rintro e w1 ⟨rfl, hb1⟩; have HB1 : Hid (Below G w w1) := hb1; clear hb1)
          | fail)
        go_ret
        exact ⟨rfl, HB1.out⟩
      | true =>
      cases b7 with
      | false =>
        go_enter Tryd.func4, Tryd.ntmps4
        go_wp2_with (first
          | (go_at_call 6; refine C6.out.mono ?_; rintro e w1 ⟨rfl, hb1⟩; have HB1 : Hid (Below G w w1) := hb1; clear hb1)
          | (go_at_call 7; refine (C7.out _).mono ?_; rintro e w2 ⟨rfl, hb2⟩; have HB2 : Hid (Below G w w2) := HB1.out.trans (hb2.mono (Nat.le_trans HGS.out HB1.out.size)); clear hb2)
          | fail)
        go_ret
        exact ⟨rfl, HB2.out⟩
      | true =>
      cases b8 with
      | true =>
        go_enter Tryd.func4, Tryd.ntmps4
        go_wp2_with (first
          | (go_at_call 6; refine C6.out.mono ?_; rintro e w1 ⟨rfl, hb1⟩; have HB1 : Hid (Below G w w1) := hb1; clear hb1)
          | (go_at_call 7; refine (C7.out _).mono ?_; rintro e w2 ⟨rfl, hb2⟩; have HB2 : Hid (Below G w w2) := HB1.out.trans (hb2.mono (Nat.le_trans HGS.out HB1.out.size)); clear hb2)
          | (go_at_call 8; refine (C8.out _ HB2.out).mono ?_; rintro e w3 ⟨rfl, rfl⟩)
          | fail)
        go_ret
        exact ⟨rfl, HB2.out⟩
      | false =>
      cases b9 with
      | true =>
        go_enter Tryd.func4, Tryd.ntmps4
        go_wp2_with (first
          | (go_at_call 6; refine C6.out.mono ?_; rintro e w1 ⟨rfl, hb1⟩; have HB1 : Hid (Below G w w1) := hb1; clear hb1)
          | (go_at_call 7; refine (C7.out _).mono ?_; rintro e w2 ⟨rfl, hb2⟩; have HB2 : Hid (Below G w w2) := HB1.out.trans (hb2.mono (Nat.le_trans HGS.out HB1.out.size)); clear hb2)
          | (go_at_call 8; refine (C8.out _ HB2.out).mono ?_; rintro e w3 ⟨rfl, rfl⟩)
          | (go_at_call 8; refine (C9.out _ HB2.out).mono ?_; rintro e w3 ⟨rfl, rfl⟩)
          | fail)
        go_ret
        exact ⟨rfl, HB2.out⟩
      | false =>
        go_enter Tryd.func4, Tryd.ntmps4
        go_wp2_with (first
          | (go_at_call 6; refine C6.out.mono ?_; rintro e w1 ⟨rfl, hb1⟩; have HB1 : Hid (Below G w w1) := hb1; clear hb1)
          | (go_at_call 7; refine (C7.out _).mono ?_; rintro e w2 ⟨rfl, hb2⟩; have HB2 : Hid (Below G w w2) := HB1.out.trans (hb2.mono (Nat.le_trans HGS.out HB1.out.size)); clear hb2)
          | (go_at_call 8; refine (C8.out _ HB2.out).mono ?_; rintro e w3 ⟨rfl, rfl⟩)
          | (go_at_call 8; refine (C9.out _ HB2.out).mono ?_; rintro e w3 ⟨rfl, rfl⟩)
          | (go_at_call 9; refine (C10.out _).mono ?_; rintro e w3 ⟨rfl, rfl⟩)
          | fail)
        go_ret
        exact ⟨by cases b10 <;> rfl, HB2.out⟩
    · have h60i : ¬ (n : Int) ≤ 60 := by omega
      rw [decide_eq_false h60]
      go_enter Tryd.func4, Tryd.ntmps4
      go_wp2
      go_ret
      exact ⟨rfl, HB0.out⟩
end Go.Proofs.YtcfgoiibmhkcnaaDoor
