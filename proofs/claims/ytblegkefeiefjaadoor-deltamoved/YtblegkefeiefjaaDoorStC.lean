/- The program's 'readStep'. -/
import Derived.Test.YtblegkefeiefjaaDoorStB
namespace Go.Proofs.YtblegkefeiefjaaDoor
open Go.RowKit Plain
set_option linter.unusedVariables false
set_option linter.unusedSimpArgs false

set_option maxRecDepth 20000 in
set_option maxHeartbeats 2000000 in
theorem readStep_any (a0 : Option Addr) (cap0 b off cap : Nat) (base bs : List Int) (w : World) (hz : IsB bs) (hl : bs.length ≤ 400000) (hl0 : base.length ≤ 400000) (h0 : Sl w a0 cap0 base) (h1 : 0 < bs.length) (hat : At w b off bs) (hb : b < w.heap.size) (hcap : bs.length ≤ cap) :
    Calls Tryd.prog 25 #[.slice a0 base.length cap0, .slice (some ⟨b, off, none⟩) bs.length cap] w (PostS a0 base.length b bs w (stp base bs)) := by
  have hxb := hz.get 0
  obtain ⟨op, HOP⟩ : ∃ op : Nat, Hid (bs.getD 0 0 = (op : Int)) := ⟨(bs.getD 0 0).toNat, by show _ = _; rw [List.getD_eq_getElem?_getD]; omega⟩
  have hopb : op < 256 := by have := HOP.out; rw [List.getD_eq_getElem?_getD] at this; omega
  have c0 := hat 0 h1
  rw [Nat.add_zero, HOP.out] at c0
  obtain ⟨t, HBS⟩ : ∃ t, Hid (bs = (op : Int) :: t) := by
    cases bs with
    | nil => simp at h1
    | cons x t => exact ⟨t, by show _ = _; have := HOP.out; simp at this; rw [this]⟩
  by_cases h8 : 128 ≤ op
  · have h8Z : (128 : Int) ≤ (op : Int) := by omega
    have RC := readCopy_any a0 cap0 b off cap base bs w hz hl hl0 h0 h1 hat op HOP.out h8
    obtain ⟨R, HR⟩ : ∃ R, Hid (stp base bs = R) := ⟨_, rfl⟩
    rw [HR.out] at RC ⊢
    have h1Z : (0 : Int) < bs.length := by omega
    cases R with
    | none =>
      go_enter Tryd.func25, Tryd.ntmps25
      go_wp2_with (go_at_call 35; refine RC.mono ?_; clear RC; rintro ev w1 ⟨rfl, rfl⟩)
      go_ret2
      exact ⟨rfl, rfl⟩
    | some cr =>
      obtain ⟨c, r⟩ := cr
      go_enter Tryd.func25, Tryd.ntmps25
      go_wp2_with (go_at_call 35; refine RC.mono ?_; clear RC; rintro ev w1 ⟨rfl, a1, cap1, u, ad, rfl, hr, hu1, hu2, hS, hp⟩; have HS : Hid _ := hS; have HPP : Hid _ := hp; clear hS hp)
      go_ret2
      exact ⟨rfl, a1, cap1, u, ad, rfl, hr, hu1, hu2, HS.out, HPP.out⟩
  · have h8Z : ¬ (128 : Int) ≤ (op : Int) := by omega
    obtain ⟨L, HL⟩ : ∃ L, Hid (L = bs.length) := ⟨_, rfl⟩
    have HSTP : Hid (stp base bs = if op = 0 then none else if op ≤ L - 1 then some ((bs.drop 1).take op, bs.drop (1 + op)) else none) := by
      show _ = _
      have hlt : L = t.length + 1 := by rw [HL.out, HBS.out]; rfl
      rw [HBS.out, stp]
      by_cases e0 : op = 0
      · subst e0; rw [if_pos (show ((0 : Nat) : Int) = 0 from rfl), if_pos rfl]
      · rw [if_neg (by omega), if_neg e0, if_pos (by omega), Int.toNat_natCast, hlt, Nat.add_sub_cancel]
        have e1 : ((op : Int) :: t).drop 1 = t := rfl
        have e2 : ((op : Int) :: t).drop (1 + op) = t.drop op := by rw [Nat.add_comm]; rfl
        rw [e1, e2]
    have HAT : Hid _ := hat
    rw [← HL.out] at hl h1 hcap ⊢
    have h1Z : (0 : Int) < L := by omega
    clear hz hat h0
    by_cases e0 : op = 0
    · subst e0
      rw [if_pos rfl] at HSTP
      have c0' : w.cell? ⟨b, off, none⟩ = some (.int .u8 0) := by simpa using c0
      clear c0
      go_enter Tryd.func25, Tryd.ntmps25
      go_wp2_with fail
      go_ret2
      exact ⟨rfl, by rw [HSTP.out]; rfl⟩
    · have e0Z : ¬ (op : Int) = 0 := by omega
      rw [if_neg e0] at HSTP
      obtain ⟨us, HUS⟩ : ∃ us, Hid (us = 1 + op) := ⟨_, rfl⟩
      have hus : (1 : Int) + (op : Int) = (us : Int) := by rw [HUS.out]; push_cast; rfl
      by_cases hle : op ≤ L - 1
      · have hleZ : ¬ (L : Int) < (us : Int) := by have := HUS.out; omega
        rw [if_pos hle] at HSTP
        have husL : us ≤ L := by have := HUS.out; omega
        obtain ⟨ad, HAD⟩ : ∃ ad, Hid ((if cap = 1 then some (⟨b, off, none⟩ : Addr) else some ⟨b, off + 1, none⟩) = ad) := ⟨_, rfl⟩
        have had := HAD.out
        have hcl : ((bs.drop 1).take op).length = us - 1 := by rw [List.length_take, List.length_drop, ← HL.out, HUS.out]; omega
        have HSL : Hid (Sl w ad (cap - 1) ((bs.drop 1).take op)) := ⟨by rw [hcl]; omega, fun _ => ⟨b, off + 1, by rw [← HAD.out, if_neg (by have := HUS.out; omega)], hb, at_sub HAT.out 1 op (by rw [← HL.out]; omega)⟩, fun h => by rw [← HAD.out] at h; split at h <;> cases h⟩
        go_enter Tryd.func25, Tryd.ntmps25
        go_wp2_with fail
        go_ret2
        refine ⟨rfl, ?_⟩
        rw [HSTP.out]
        exact ⟨0, cap - 1, us, ad, by rw [hcl]; first | rfl | (push_cast; rfl), by rw [HUS.out], by have := HUS.out; omega, by rw [← HL.out]; exact husL, HSL.out, fun p hp => .inl (by rw [← HAD.out] at hp; split at hp <;> (cases hp; rfl))⟩
      · have hleZ : (L : Int) < (us : Int) := by have := HUS.out; omega
        rw [if_neg hle] at HSTP
        go_enter Tryd.func25, Tryd.ntmps25
        go_wp2_with fail
        go_ret2
        exact ⟨rfl, by rw [HSTP.out]; rfl⟩
end Go.Proofs.YtblegkefeiefjaaDoor
