/- 'strconv.ParseUint' at base 16, 16 bits. -/
import Derived.Test.YtijeogdnjeamaaaGreatDoorWbB
import Derived.Test.YtijeogdnjeamaaaGreatDoorShW
namespace Go.Proofs.YtijeogdnjeamaaaGreatDoor
open Go.RowKit
set_option linter.unusedVariables false
set_option linter.unusedSimpArgs false
/-- A digit's number: 16, if it is none. -/
def dv (c : UInt8) : Nat := if 48 ≤ c.toNat ∧ c.toNat ≤ 57 then c.toNat - 48 else if 97 ≤ c.toNat ∧ c.toNat ≤ 102 then c.toNat - 87 else 16
/-- Digits, as far as they are a number of 16 bits. -/
def hex16 : Nat → List UInt8 → Option Nat
  | acc, [] => some acc
  | acc, c :: t => if dv c < 16 ∧ acc * 16 + dv c ≤ 65535 then hex16 (acc * 16 + dv c) t else none
theorem dv_dc (d : Nat) (h : d < 16) : dv (dc d) = d := by
  rcases (show d = 0 ∨ d = 1 ∨ d = 2 ∨ d = 3 ∨ d = 4 ∨ d = 5 ∨ d = 6 ∨ d = 7 ∨ d = 8 ∨ d = 9 ∨ d = 10 ∨ d = 11 ∨ d = 12 ∨ d = 13 ∨ d = 14 ∨ d = 15 by omega) with rfl | rfl | rfl | rfl | rfl | rfl | rfl | rfl | rfl | rfl | rfl | rfl | rfl | rfl | rfl | rfl <;> decide
theorem hex_hx4 (m : Nat) (h : m < 65536) : hex16 0 (hx4 m) = some m := by
  unfold hx4
  simp only [hex16]
  rw [dv_dc _ (by omega), dv_dc _ (by omega), dv_dc _ (by omega), dv_dc _ (by omega)]
  rw [if_pos (by omega), if_pos (by omega), if_pos (by omega), if_pos (by omega)]
  congr 1
  omega
/-- What is asked of it. -/
def PU (l : List UInt8) (e : Ending) : Prop := ∃ (v : Int) (ev : Value), e = .returned (.tuple #[.int .u64 v, ev]) ∧ 0 ≤ v ∧ v ≤ 65535 ∧ (ev = .nilIface ∨ ev = .iface 246 (.int .i64 1) ∨ ev = .iface 246 (.int .i64 2)) ∧ (∀ r, l ≠ [] → hex16 0 l = some r → v = r ∧ ev = .nilIface)
theorem PU.bad {l : List UInt8} (h : l = [] ∨ hex16 0 l = none) (v : Int) (h0 : 0 ≤ v) (h1 : v ≤ 65535) (k : Int) (hk : k = 1 ∨ k = 2) : PU l (.returned (.tuple #[.int .u64 v, .iface 246 (.int .i64 k)])) :=
  ⟨v, _, rfl, h0, h1, by rcases hk with rfl | rfl; exact .inr (.inl rfl); exact .inr (.inr rfl), fun r hn hr => by
    rcases h with h | h
    · exact absurd h hn
    · rw [h] at hr; cases hr⟩
theorem lower_any (c : Int) (w : World) : Calls Tryz.prog 160 #[.int .u8 c] w fun e w' => e = .returned (.int .u8 (bits .or .u8 c 32)) ∧ w' = w := by
  go_enter Tryz.func160, Tryz.ntmps160
  go_wp2
  go_ret
  exact ⟨rfl, rfl⟩
theorem or32 (c : Nat) (h : 97 ≤ c ∧ c ≤ 102) : bits .or .u8 (c : Int) 32 = c := by
  rcases (show c = 97 ∨ c = 98 ∨ c = 99 ∨ c = 100 ∨ c = 101 ∨ c = 102 by omega) with rfl | rfl | rfl | rfl | rfl | rfl <;> decide +kernel
theorem bits_in (c : Int) : 0 ≤ bits .or .u8 c 32 ∧ bits .or .u8 c 32 ≤ 255 := ⟨bits_lo_u8 .or c 32, by have := bits_hi_u8 .or c 32; omega⟩
set_option maxHeartbeats 8000000 in
set_option maxRecDepth 100000 in
theorem parseUint16 (l : List UInt8) (hl : l.length ≤ 1000000) (w : World) :
    Calls Tryz.prog 144 #[.string ⟨l.toArray⟩, .int .i64 16, .int .i64 16] w fun e w' => PU l e ∧ Below w.heap.size w w' := by
  by_cases hne : l = []
  · subst hne
    have HB : Hid (Below w.heap.size w w) := Below.refl _ _
    go_enter Tryz.func144, Tryz.ntmps144
    go_wp2
    go_ret2
    exact ⟨PU.bad (.inl rfl) _ (by decide) (by decide) 2 (.inr rfl), HB.out⟩
  · obtain ⟨S, HS⟩ : ∃ S : ByteArray, Hid (S = ⟨l.toArray⟩) := ⟨_, rfl⟩
    obtain ⟨n, HN⟩ : ∃ n, Hid (l.length = n) := ⟨_, rfl⟩
    have hn : n ≤ 1000000 := by rw [← HN.out]; exact hl
    have hemp : S.toList.isEmpty = false := by
      rw [HS.out, Lib.toList_data]
      simpa using hne
    obtain ⟨cap, w1, hcv, hmk, hb1⟩ := conv_bytes l w
    rw [← HS.out, HN.out] at hcv
    have HB1 : Hid (Below w.heap.size w w1) := hb1
    have HM : Hid (PB w1 (some ⟨w.heap.size, 0, none⟩) cap l) := hmk
    have hmv : IntKind.u64.wrap (IntKind.u64.wrap 65536 - 1) = 65535 := by
      rw [IntKind.wrap_u64, IntKind.wrap_u64]
      decide
    rw [← HS.out]
    clear hmk hb1
    go_enter Tryz.func144, Tryz.ntmps144
    go_wp2
    go_loop [12, 13, 101] (fun vu vn vi => ∃ (k : Nat) (a : Int), vu = .bool false ∧ vn = .int .u64 a ∧ vi = .int .i64 k ∧ k ≤ n ∧ 0 ≤ a ∧ a ≤ 65535 ∧ Hid (hex16 0 l = none ∨ ∃ acc : Nat, a = (acc : Int) ∧ hex16 0 l = hex16 acc (l.drop k)))
      (fun _ _ vi => n - (intOf vi).toNat)
    case atStart => exact ⟨0, 0, rfl, rfl, rfl, by omega, by omega, by omega, .inr ⟨0, rfl, rfl⟩⟩
    case round =>
      obtain ⟨k, a, rfl, rfl, rfl, hk, a0, a1, HH⟩ := hrel
      by_cases hkn : k < n
      · have hkl : k < l.length := by rw [HN.out]; exact hkn
        obtain ⟨c, HCc⟩ : ∃ c, Hid (l[k]? = some c) := ⟨_, hid (List.getElem?_eq_getElem hkl)⟩
        have HDR : Hid (l.drop k = c :: l.drop (k + 1)) := hid (by
          rw [List.drop_eq_getElem_cons hkl]
          have h1 := HCc.out
          rw [List.getElem?_eq_getElem hkl] at h1
          rw [Option.some.inj h1])
        have hc : w1.cell? ⟨w.heap.size, k, none⟩ = some (.int .u8 (c.toNat : Int)) := by
          have := PB.cell HM.out k hkl
          rw [Nat.zero_add] at this
          rw [this, List.getD_eq_getElem?_getD, HCc.out]
          rfl
        have HNX : Hid (∀ d : Nat, d = dv c → d < 16 → a * 16 + d ≤ 65535 → (hex16 0 l = none ∨ ∃ acc : Nat, a * 16 + (d : Int) = (acc : Int) ∧ hex16 0 l = hex16 acc (l.drop (k + 1)))) := hid (fun d hd h16 hle => by
          rcases HH.out with h | ⟨acc, ha, he⟩
          · exact .inl h
          · refine .inr ⟨acc * 16 + d, by omega, ?_⟩
            rw [he, HDR.out, hex16, if_pos (by rw [← hd]; omega), ← hd])
        have HNO : Hid (∀ d : Nat, d = dv c → (¬ d < 16 ∨ 65535 < a * 16 + d) → hex16 0 l = none) := hid (fun d hd hor => by
          rcases HH.out with h | ⟨acc, ha, he⟩
          · exact h
          · rw [he, HDR.out, hex16, if_neg (by rw [← hd]; omega)])
        have hc256 : c.toNat < 256 := c.toNat_lt
        obtain ⟨x, HXx⟩ : ∃ x, Hid (c.toNat = x) := ⟨_, rfl⟩
        rw [HXx.out] at hc hc256
        by_cases hdig : 48 ≤ x ∧ x ≤ 57
        · obtain ⟨hd0, hd1⟩ := hdig
          have hdv : x - 48 = dv c := by unfold dv; rw [HXx.out, if_pos (by omega)]
          have hx95 : ((x : Int) == 95) = false := by simp; omega
          by_cases hov : 65535 < a * 16 + ((x : Int) - 48)
          · have HP : Hid (PU l (.returned (.tuple #[.int .u64 65535, .iface 246 (.int .i64 1)]))) := hid (PU.bad (.inr (HNO.out _ hdv (.inr (by omega)))) _ (by decide) (by decide) 1 (.inl rfl))
            clear hdv
            go_wp2
            go_ret2
            exact ⟨HP.out, HB1.out⟩
          · have HN2 : Hid (hex16 0 l = none ∨ ∃ acc : Nat, a * 16 + ((x : Int) - 48) = (acc : Int) ∧ hex16 0 l = hex16 acc (l.drop (k + 1))) := hid (by
              have := HNX.out _ hdv (by omega) (by omega)
              rw [show ((x - 48 : Nat) : Int) = (x : Int) - 48 by omega] at this
              exact this)
            have iov : a * 16 + ((x : Int) - 48) ≤ 65535 := by omega
            clear hdv hov
            go_wp2
            refine ⟨⟨k + 1, a * 16 + ((x : Int) - 48), rfl, (by first | rfl | (congr 1; omega)), (by first | rfl | (congr 1; omega)), by omega, by omega, by omega, HN2⟩, by simp [intOf]; omega⟩
        · obtain ⟨L, HL⟩ : ∃ L, Hid (bits .or .u8 (x : Int) 32 = L) := ⟨_, rfl⟩
          have hLb := bits_in (x : Int)
          rw [HL.out] at hLb
          obtain ⟨hL0, hL1⟩ := hLb
          have C50 : Hid (∀ W, Calls Tryz.prog 160 #[.int .u8 (x : Int)] W fun e w' => e = .returned (.int .u8 L) ∧ w' = W) := hid (fun W => by rw [← HL.out]; exact lower_any _ W)
          have HLO : Hid (97 ≤ x ∧ x ≤ 102 → L = x) := hid (fun h => by rw [← HL.out]; exact or32 x h)
          have H95 : Hid (x = 95 → L = 127) := hid (fun h => by rw [← HL.out, h]; decide +kernel)
          have hdv : ∀ h : 97 ≤ x ∧ x ≤ 102, x - 87 = dv c := fun h => by unfold dv; rw [HXx.out, if_neg hdig, if_pos h]
          have hdv2 : ∀ h : ¬ (97 ≤ x ∧ x ≤ 102), 16 = dv c := fun h => by unfold dv; rw [HXx.out, if_neg hdig, if_neg h]
          by_cases hLr : 97 ≤ L ∧ L ≤ 102
          · obtain ⟨hl0, hl1⟩ := hLr
            by_cases hov : 65535 < a * 16 + (L - 87)
            · have HP : Hid (PU l (.returned (.tuple #[.int .u64 65535, .iface 246 (.int .i64 1)]))) := hid (PU.bad (.inr (by
                by_cases hxx : 97 ≤ x ∧ x ≤ 102
                · have := HLO.out hxx
                  exact HNO.out _ (hdv hxx) (.inr (by omega))
                · exact HNO.out _ (hdv2 hxx) (.inl (by decide)))) _ (by decide) (by decide) 1 (.inl rfl))
              have hx95 : ((x : Int) == 95) = false := by
                have : x ≠ 95 := fun e => by have := H95.out e; omega
                simp; omega
              clear hdv hdv2
              rcases (show x < 48 ∨ 57 < x by omega) with hxa | hxa
              all_goals
                clear hdig
                go_wp2_with (go_at_call 160; refine (C50.out _).mono ?_; rintro e w' ⟨rfl, rfl⟩)
                go_ret2
                exact ⟨HP.out, HB1.out⟩
            · have HN2 : Hid (hex16 0 l = none ∨ ∃ acc : Nat, a * 16 + (L - 87) = (acc : Int) ∧ hex16 0 l = hex16 acc (l.drop (k + 1))) := hid (by
                by_cases hxx : 97 ≤ x ∧ x ≤ 102
                · have hLx := HLO.out hxx
                  have := HNX.out _ (hdv hxx) (by omega) (by omega)
                  rw [show ((x - 87 : Nat) : Int) = L - 87 by omega] at this
                  exact this
                · exact .inl (HNO.out _ (hdv2 hxx) (.inl (by decide))))
              have iov : a * 16 + (L - 87) ≤ 65535 := by omega
              have hx95 : ((x : Int) == 95) = false := by
                have : x ≠ 95 := fun e => by have := H95.out e; omega
                simp; omega
              clear hdv hdv2 hov
              rcases (show x < 48 ∨ 57 < x by omega) with hxa | hxa
              all_goals
                clear hdig
                go_wp2_with (go_at_call 160; refine (C50.out _).mono ?_; rintro e w' ⟨rfl, rfl⟩)
                refine ⟨⟨k + 1, a * 16 + (L - 87), rfl, (by first | rfl | (congr 1; omega)), (by first | rfl | (congr 1; omega)), by omega, by omega, by omega, HN2⟩, by simp [intOf]; omega⟩
          · have HP : Hid (PU l (.returned (.tuple #[.int .u64 0, .iface 246 (.int .i64 2)]))) := hid (PU.bad (.inr (by
              by_cases hxx : 97 ≤ x ∧ x ≤ 102
              · have := HLO.out hxx
                omega
              · exact HNO.out _ (hdv2 hxx) (.inl (by decide)))) _ (by decide) (by decide) 2 (.inr rfl))
            clear hdv hdv2
            obtain ⟨b95, H95b⟩ : ∃ b : Bool, ((x : Int) == 95) = b := ⟨_, rfl⟩
            rcases (show x < 48 ∨ 57 < x by omega) with hxa | hxa
            all_goals
              clear hdig
              rcases (show L < 97 ∨ (97 ≤ L ∧ L ≤ 122 ∧ 102 < L) ∨ (97 ≤ L ∧ 122 < L) by omega) with q | ⟨q1, q2, q3⟩ | ⟨q1, q2⟩
              all_goals
                clear hLr
                cases b95
                all_goals
                  go_wp2_with (go_at_call 160; refine (C50.out _).mono ?_; rintro e w' ⟨rfl, rfl⟩)
                  go_ret2
                  exact ⟨HP.out, HB1.out⟩
      · have hkk : k = n := by omega
        subst hkk
        have HP : Hid (PU l (.returned (.tuple #[.int .u64 a, .nilIface]))) := hid ⟨a, _, rfl, a0, a1, .inl rfl, fun r _ hr => by
          rcases HH.out with h | ⟨acc, ha, he⟩
          · rw [h] at hr; cases hr
          · rw [he, List.drop_eq_nil_of_le (by rw [HN.out]; exact Nat.le_refl _)] at hr
            cases hr
            exact ⟨ha, rfl⟩⟩
        go_wp2
        go_ret2
        exact ⟨HP.out, HB1.out⟩
end Go.Proofs.YtijeogdnjeamaaaGreatDoor
