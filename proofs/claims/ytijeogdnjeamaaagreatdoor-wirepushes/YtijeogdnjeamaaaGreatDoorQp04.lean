import Derived.Test.YtijeogdnjeamaaaGreatDoorQp03
namespace Go.Proofs.YtijeogdnjeamaaaGreatDoor
open Go.RowKit
set_option linter.unusedVariables false
set_option linter.unusedSimpArgs false
def dv (c : UInt8) : Nat := if 48 ≤ c.toNat ∧ c.toNat ≤ 57 then c.toNat - 48 else if 97 ≤ c.toNat ∧ c.toNat ≤ 102 then c.toNat - 87 else 16
def hex16 : Nat → List UInt8 → Option Nat
  | acc, [] => some acc
  | acc, c :: t => if dv c < 16 ∧ acc * 16 + dv c ≤ 65535 then hex16 (acc * 16 + dv c) t else none
theorem dv_dc (d : Nat) (h : d < 16) : dv (dc d) = d := by
  rcases (show d = 0 ∨ d = 1 ∨ d = 2 ∨ d = 3 ∨ d = 4 ∨ d = 5 ∨ d = 6 ∨ d = 7 ∨ d = 8 ∨ d = 9 ∨ d = 10 ∨ d = 11 ∨ d = 12 ∨ d = 13 ∨ d = 14 ∨ d = 15 by omega) with rfl | rfl | rfl | rfl | rfl | rfl | rfl | rfl | rfl | rfl | rfl | rfl | rfl | rfl | rfl | rfl <;> decide
theorem hex_hx4 (m : Nat) (h : m < 65536) : hex16 0 (hx4 m) = some m := by
  unfold hx4
  simp only [hex16]
  rw [dv_dc _ (by omega), dv_dc _ (by omega), dv_dc _ (by omega), dv_dc _ (by omega)]
  rw [if_pos (by omega), if_pos (by omega), if_pos (by omega), if_pos (by omega)]
  congr 1
  omega
def PU (l : List UInt8) (e : Ending) : Prop := ∃ (v : Int) (ev : Value), e = .returned (.tuple #[.int .u64 v, ev]) ∧ 0 ≤ v ∧ v ≤ 65535 ∧ (ev = .nilIface ∨ ev = .iface 246 (.int .i64 1) ∨ ev = .iface 246 (.int .i64 2)) ∧ (∀ r, l ≠ [] → hex16 0 l = some r → v = r ∧ ev = .nilIface)
theorem PU.bad {l : List UInt8} (h : l = [] ∨ hex16 0 l = none) (v : Int) (h0 : 0 ≤ v) (h1 : v ≤ 65535) (k : Int) (hk : k = 1 ∨ k = 2) : PU l (.returned (.tuple #[.int .u64 v, .iface 246 (.int .i64 k)])) :=
  ⟨v, _, rfl, h0, h1, by rcases hk with rfl | rfl; exact .inr (.inl rfl); exact .inr (.inr rfl), fun r hn hr => by
    rcases h with h | h
    · exact absurd h hn
    · rw [h] at hr; cases hr⟩
theorem lower_any (c : Int) (w : World) : Calls Tryz.prog 160 #[.int .u8 c] w fun e w' => e = .returned (.int .u8 (bits .or .u8 c 32)) ∧ w' = w := by
  go_enter Tryz.func160, Tryz.ntmps160
  go_wp2
  go_ret
  exact ⟨rfl, rfl⟩
theorem or32 (c : Nat) (h : 97 ≤ c ∧ c ≤ 102) : bits .or .u8 (c : Int) 32 = c := by
  rcases (show c = 97 ∨ c = 98 ∨ c = 99 ∨ c = 100 ∨ c = 101 ∨ c = 102 by omega) with rfl | rfl | rfl | rfl | rfl | rfl <;> decide +kernel
theorem bits_in (c : Int) : 0 ≤ bits .or .u8 c 32 ∧ bits .or .u8 c 32 ≤ 255 := ⟨bits_lo_u8 .or c 32, by have := bits_hi_u8 .or c 32; omega⟩
set_option maxHeartbeats 8000000 in
set_option maxRecDepth 100000 in
theorem parseUint16 (l : List UInt8) (hl : l.length ≤ 1000000) (w : World) :
    Calls Tryz.prog 144 #[.string ⟨l.toArray⟩, .int .i64 16, .int .i64 16] w fun e w' => PU l e ∧ Below w.heap.size w w' := by
  by_cases hne : l = []
  · subst hne
    have HB : Hid (Below w.heap.size w w) := Below.refl _ _
    go_enter Tryz.func144, Tryz.ntmps144
    go_wp2
    go_ret2
    exact ⟨PU.bad (.inl rfl) _ (by decide) (by decide) 2 (.inr rfl), HB.out⟩
  · obtain ⟨S, HS⟩ : ∃ S : ByteArray, Hid (S = ⟨l.toArray⟩) := ⟨_, rfl⟩
    obtain ⟨n, HN⟩ : ∃ n, Hid (l.length = n) := ⟨_, rfl⟩
    have hn : n ≤ 1000000 := by rw [← HN.out]; exact hl
    have hemp : S.toList.isEmpty = false := by
      rw [HS.out, Lib.toList_data]
      simpa using hne
    obtain ⟨cap, w1, hcv, hmk, hb1⟩ := conv_bytes l w
    rw [← HS.out, HN.out] at hcv
    have HB1 : Hid (Below w.heap.size w w1) := hb1
    have HM : Hid (PB w1 (some ⟨w.heap.size, 0, none⟩) cap l) := hmk
    have hmv : IntKind.u64.wrap (IntKind.u64.wrap 65536 - 1) = 65535 := by
      rw [IntKind.wrap_u64, IntKind.wrap_u64]
      decide
    rw [← HS.out]
    clear hmk hb1
    go_enter Tryz.func144, Tryz.ntmps144
    go_wp2
    go_loop [12, 13, 101] (fun vu vn vi => ∃ (k : Nat) (a : Int), vu = .bool false ∧ vn = .int .u64 a ∧ vi = .int .i64 k ∧ k ≤ n ∧ 0 ≤ a ∧ a ≤ 65535 ∧ Hid (hex16 0 l = none ∨ ∃ acc : Nat, a = (acc : Int) ∧ hex16 0 l = hex16 acc (l.drop k)))
      (fun _ _ vi => n - (intOf vi).toNat)
    case atStart => exact ⟨0, 0, rfl, rfl, rfl, by omega, by omega, by omega, .inr ⟨0, rfl, rfl⟩⟩
    case round =>
      obtain ⟨k, a, rfl, rfl, rfl, hk, a0, a1, HH⟩ := hrel
      by_cases hkn : k < n
      · have hkl : k < l.length := by rw [HN.out]; exact hkn
        obtain ⟨c, HCc⟩ : ∃ c, Hid (l[k]? = some c) := ⟨_, hid (List.getElem?_eq_getElem hkl)⟩
        have HDR : Hid (l.drop k = c :: l.drop (k + 1)) := hid (by
          rw [List.drop_eq_getElem_cons hkl]
          have h1 := HCc.out
          rw [List.getElem?_eq_getElem hkl] at h1
          rw [Option.some.inj h1])
        have hc : w1.cell? ⟨w.heap.size, k, none⟩ = some (.int .u8 (c.toNat : Int)) := by
          have := PB.cell HM.out k hkl
          rw [Nat.zero_add] at this
          rw [this, List.getD_eq_getElem?_getD, HCc.out]
          rfl
        have HNX : Hid (∀ d : Nat, d = dv c → d < 16 → a * 16 + d ≤ 65535 → (hex16 0 l = none ∨ ∃ acc : Nat, a * 16 + (d : Int) = (acc : Int) ∧ hex16 0 l = hex16 acc (l.drop (k + 1)))) := hid (fun d hd h16 hle => by
          rcases HH.out with h | ⟨acc, ha, he⟩
          · exact .inl h
          · refine .inr ⟨acc * 16 + d, by omega, ?_⟩
            rw [he, HDR.out, hex16, if_pos (by rw [← hd]; omega), ← hd])
        have HNO : Hid (∀ d : Nat, d = dv c → (¬ d < 16 ∨ 65535 < a * 16 + d) → hex16 0 l = none) := hid (fun d hd hor => by
          rcases HH.out with h | ⟨acc, ha, he⟩
          · exact h
          · rw [he, HDR.out, hex16, if_neg (by rw [← hd]; omega)])
        have hc256 : c.toNat < 256 := c.toNat_lt
        obtain ⟨x, HXx⟩ : ∃ x, Hid (c.toNat = x) := ⟨_, rfl⟩
        rw [HXx.out] at hc hc256
        by_cases hdig : 48 ≤ x ∧ x ≤ 57
        · obtain ⟨hd0, hd1⟩ := hdig
          have hdv : x - 48 = dv c := by unfold dv; rw [HXx.out, if_pos (by omega)]
          have hx95 : ((x : Int) == 95) = false := by simp; omega
          by_cases hov : 65535 < a * 16 + ((x : Int) - 48)
          · have HP : Hid (PU l (.returned (.tuple #[.int .u64 65535, .iface 246 (.int .i64 1)]))) := hid (PU.bad (.inr (HNO.out _ hdv (.inr (by omega)))) _ (by decide) (by decide) 1 (.inl rfl))
            clear hdv
            go_wp2
            go_ret2
            exact ⟨HP.out, HB1.out⟩
          · have HN2 : Hid (hex16 0 l = none ∨ ∃ acc : Nat, a * 16 + ((x : Int) - 48) = (acc : Int) ∧ hex16 0 l = hex16 acc (l.drop (k + 1))) := hid (by
              have := HNX.out _ hdv (by omega) (by omega)
              rw [show ((x - 48 : Nat) : Int) = (x : Int) - 48 by omega] at this
              exact this)
            have iov : a * 16 + ((x : Int) - 48) ≤ 65535 := by omega
            clear hdv hov
            go_wp2
            refine ⟨⟨k + 1, a * 16 + ((x : Int) - 48), rfl, (by first | rfl | (congr 1; omega)), (by first | rfl | (congr 1; omega)), by omega, by omega, by omega, HN2⟩, by simp [intOf]; omega⟩
        · obtain ⟨L, HL⟩ : ∃ L, Hid (bits .or .u8 (x : Int) 32 = L) := ⟨_, rfl⟩
          have hLb := bits_in (x : Int)
          rw [HL.out] at hLb
          obtain ⟨hL0, hL1⟩ := hLb
          have C50 : Hid (∀ W, Calls Tryz.prog 160 #[.int .u8 (x : Int)] W fun e w' => e = .returned (.int .u8 L) ∧ w' = W) := hid (fun W => by rw [← HL.out]; exact lower_any _ W)
          have HLO : Hid (97 ≤ x ∧ x ≤ 102 → L = x) := hid (fun h => by rw [← HL.out]; exact or32 x h)
          have H95 : Hid (x = 95 → L = 127) := hid (fun h => by rw [← HL.out, h]; decide +kernel)
          have hdv : ∀ h : 97 ≤ x ∧ x ≤ 102, x - 87 = dv c := fun h => by unfold dv; rw [HXx.out, if_neg hdig, if_pos h]
          have hdv2 : ∀ h : ¬ (97 ≤ x ∧ x ≤ 102), 16 = dv c := fun h => by unfold dv; rw [HXx.out, if_neg hdig, if_neg h]
          by_cases hLr : 97 ≤ L ∧ L ≤ 102
          · obtain ⟨hl0, hl1⟩ := hLr
            by_cases hov : 65535 < a * 16 + (L - 87)
            · have HP : Hid (PU l (.returned (.tuple #[.int .u64 65535, .iface 246 (.int .i64 1)]))) := hid (PU.bad (.inr (by
                by_cases hxx : 97 ≤ x ∧ x ≤ 102
                · have := HLO.out hxx
                  exact HNO.out _ (hdv hxx) (.inr (by omega))
                · exact HNO.out _ (hdv2 hxx) (.inl (by decide)))) _ (by decide) (by decide) 1 (.inl rfl))
              have hx95 : ((x : Int) == 95) = false := by
                have : x ≠ 95 := fun e => by have := H95.out e; omega
                simp; omega
              clear hdv hdv2
              rcases (show x < 48 ∨ 57 < x by omega) with hxa | hxa
              all_goals
                clear hdig
                go_wp2_with (go_at_call 160; refine (C50.out _).mono ?_; rintro e w' ⟨rfl, rfl⟩)
                go_ret2
                exact ⟨HP.out, HB1.out⟩
            · have HN2 : Hid (hex16 0 l = none ∨ ∃ acc : Nat, a * 16 + (L - 87) = (acc : Int) ∧ hex16 0 l = hex16 acc (l.drop (k + 1))) := hid (by
                by_cases hxx : 97 ≤ x ∧ x ≤ 102
                · have hLx := HLO.out hxx
                  have := HNX.out _ (hdv hxx) (by omega) (by omega)
                  rw [show ((x - 87 : Nat) : Int) = L - 87 by omega] at this
                  exact this
                · exact .inl (HNO.out _ (hdv2 hxx) (.inl (by decide))))
              have iov : a * 16 + (L - 87) ≤ 65535 := by omega
              have hx95 : ((x : Int) == 95) = false := by
                have : x ≠ 95 := fun e => by have := H95.out e; omega
                simp; omega
              clear hdv hdv2 hov
              rcases (show x < 48 ∨ 57 < x by omega) with hxa | hxa
              all_goals
                clear hdig
                go_wp2_with (go_at_call 160; refine (C50.out _).mono ?_; rintro e w' ⟨rfl, rfl⟩)
                refine ⟨⟨k + 1, a * 16 + (L - 87), rfl, (by first | rfl | (congr 1; omega)), (by first | rfl | (congr 1; omega)), by omega, by omega, by omega, HN2⟩, by simp [intOf]; omega⟩
          · have HP : Hid (PU l (.returned (.tuple #[.int .u64 0, .iface 246 (.int .i64 2)]))) := hid (PU.bad (.inr (by
              by_cases hxx : 97 ≤ x ∧ x ≤ 102
              · have := HLO.out hxx
                omega
              · exact HNO.out _ (hdv2 hxx) (.inl (by decide)))) _ (by decide) (by decide) 2 (.inr rfl))
            clear hdv hdv2
            obtain ⟨b95, H95b⟩ : ∃ b : Bool, ((x : Int) == 95) = b := ⟨_, rfl⟩
            rcases (show x < 48 ∨ 57 < x by omega) with hxa | hxa
            all_goals
              clear hdig
              rcases (show L < 97 ∨ (97 ≤ L ∧ L ≤ 122 ∧ 102 < L) ∨ (97 ≤ L ∧ 122 < L) by omega) with q | ⟨q1, q2, q3⟩ | ⟨q1, q2⟩
              all_goals
                clear hLr
                cases b95
                all_goals
                  go_wp2_with (go_at_call 160; refine (C50.out _).mono ?_; rintro e w' ⟨rfl, rfl⟩)
                  go_ret2
                  exact ⟨HP.out, HB1.out⟩
      · have hkk : k = n := by omega
        subst hkk
        have HP : Hid (PU l (.returned (.tuple #[.int .u64 a, .nilIface]))) := hid ⟨a, _, rfl, a0, a1, .inl rfl, fun r _ hr => by
          rcases HH.out with h | ⟨acc, ha, he⟩
          · rw [h] at hr; cases hr
          · rw [he, List.drop_eq_nil_of_le (by rw [HN.out]; exact Nat.le_refl _)] at hr
            cases hr
            exact ⟨ha, rfl⟩⟩
        go_wp2
        go_ret2
        exact ⟨HP.out, HB1.out⟩
end Go.Proofs.YtijeogdnjeamaaaGreatDoor
namespace Go.Proofs.YtijeogdnjeamaaaGreatDoor
open Go.RowKit
set_option linter.unusedVariables false
set_option linter.unusedSimpArgs false
structure Ers (w : World) : Prop where
  s : ∃ ev, w.cell? ⟨3, 0, none⟩ = some ev ∧ (ev = .nilIface ∨ ∃ te pe, ev = .iface te pe)
  r : ∃ ev, w.cell? ⟨4, 0, none⟩ = some ev ∧ (ev = .nilIface ∨ ∃ te pe, ev = .iface te pe)
theorem Ers.below {w w' : World} (h : Ers w) (hb : Below w.heap.size w w') : Ers w' := by
  obtain ⟨⟨e1, h1, k1⟩, ⟨e2, h2, k2⟩⟩ := h
  exact ⟨⟨e1, (hb.cell (p := ⟨3, 0, none⟩) (cell_lt h1)).trans h1, k1⟩, ⟨e2, (hb.cell (p := ⟨4, 0, none⟩) (cell_lt h2)).trans h2, k2⟩⟩
def PV (l : List UInt8) (e : Ending) : Prop := ∃ (v : Int) (ev : Value), e = .returned (.tuple #[.int .u64 v, ev]) ∧ 0 ≤ v ∧ v ≤ 65535 ∧ (ev = .nilIface ∨ ∃ N, ev = .iface 247 (.pointer (some ⟨N, 0, none⟩))) ∧ (∀ r, l ≠ [] → hex16 0 l = some r → v = r ∧ ev = .nilIface)
set_option maxRecDepth 20000 in
theorem parseU (l : List UInt8) (hl : l.length ≤ 1000000) (w : World) (he : Ers w) : Calls Tryz.prog 126 #[.string ⟨l.toArray⟩, .int .i64 16, .int .i64 16] w fun e w' => PV l e ∧ Below w.heap.size w w' := by
  have HI : Hid (Calls Tryz.prog 144 #[.string ⟨l.toArray⟩, .int .i64 16, .int .i64 16] w fun e w' => PU l e ∧ Below w.heap.size w w') := parseUint16 l hl w
  obtain ⟨S, HS⟩ : ∃ S : ByteArray, Hid (⟨l.toArray⟩ = S) := ⟨_, rfl⟩
  have hsz : S.size ≤ 281474976710656 := by rw [← HS.out, txt_len]; omega
  have HE : Hid (Ers w) := he
  rw [HS.out] at HI
  rw [HS.out]
  clear he
  go_enter Tryz.func126, Tryz.ntmps126
  go_wp2_with fail
  refine HI.out.mono ?_
  rintro ev w1 ⟨⟨v, er, rfl, v0, v1, hor, hrd⟩, hb⟩
  have HB : Hid (Below w.heap.size w w1) := hb
  have HRD : Hid (∀ r, l ≠ [] → hex16 0 l = some r → v = r ∧ er = .nilIface) := hrd
  have HV : Hid (0 ≤ v ∧ v ≤ 65535) := hid ⟨v0, v1⟩
  obtain ⟨⟨e1, hv1, hev1⟩, ⟨e2, hv2, hev2⟩⟩ := HE.out.below hb
  clear hb hrd
  rcases hor with rfl | rfl | rfl
  · clear hv1 hv2 hev1 hev2
    go_wp2
    go_ret2
    exact ⟨⟨v, _, rfl, HV.out.1, HV.out.2, .inl rfl, fun r h1 h2 => ⟨(HRD.out r h1 h2).1, rfl⟩⟩, HB.out⟩
  · have C : Hid (Calls Tryz.prog 145 #[.string ⟨#[80, 97, 114, 115, 101, 85, 105, 110, 116]⟩, .string S, .int .i64 16, .int .i64 16, .iface 246 (.int .i64 1)] w1 fun e w' => ∃ N, e = .returned (.iface 247 (.pointer (some ⟨N, 0, none⟩))) ∧ Below w1.heap.size w1 w') := hid (by
      refine (Any.strconv_toError_range (ρ := Tryz.laysC245_ren) Tryz.laysC245 ⟨#[80, 97, 114, 115, 101, 85, 105, 110, 116]⟩ S 16 16 e2 w1 hsz hv2 hev2).mono ?_
      rintro e w2 ⟨N, rfl, h1, h2, h3⟩
      exact ⟨N, rfl, h3⟩)
    clear hv1 hv2 hev1 hev2
    go_wp2_with fail
    refine C.out.mono ?_
    rintro e w2 ⟨N, rfl, hb⟩
    have HB2 : Hid (Below w.heap.size w w2) := HB.out.trans (hb.mono HB.out.size)
    clear hb
    go_wp2
    go_ret2
    exact ⟨⟨v, _, rfl, HV.out.1, HV.out.2, .inr ⟨N, rfl⟩, fun r h1 h2 => by have := (HRD.out r h1 h2).2; cases this⟩, HB2.out⟩
  · have C : Hid (Calls Tryz.prog 145 #[.string ⟨#[80, 97, 114, 115, 101, 85, 105, 110, 116]⟩, .string S, .int .i64 16, .int .i64 16, .iface 246 (.int .i64 2)] w1 fun e w' => ∃ N, e = .returned (.iface 247 (.pointer (some ⟨N, 0, none⟩))) ∧ Below w1.heap.size w1 w') := hid (by
      refine (Any.strconv_toError_syntax (ρ := Tryz.laysC245_ren) Tryz.laysC245 ⟨#[80, 97, 114, 115, 101, 85, 105, 110, 116]⟩ S 16 16 e1 w1 hsz hv1 hev1).mono ?_
      rintro e w2 ⟨N, rfl, h1, h2, h3⟩
      exact ⟨N, rfl, h3⟩)
    clear hv1 hv2 hev1 hev2
    go_wp2_with fail
    refine C.out.mono ?_
    rintro e w2 ⟨N, rfl, hb⟩
    have HB2 : Hid (Below w.heap.size w w2) := HB.out.trans (hb.mono HB.out.size)
    clear hb
    go_wp2
    go_ret2
    exact ⟨⟨v, _, rfl, HV.out.1, HV.out.2, .inr ⟨N, rfl⟩, fun r h1 h2 => by have := (HRD.out r h1 h2).2; cases this⟩, HB2.out⟩
def Fst (s : Str) (n : Nat) : Prop := n ≤ 1000 ∧ 4 + n ≤ s.length ∧ s.take 4 = szT n
theorem szT_hex (n : Nat) (h : n ≤ 1000) : hex16 0 (szT n) = some (if n = 0 then 0 else n + 4) ∧ szT n ≠ [] := by
  unfold szT
  by_cases h0 : n = 0
  · rw [if_pos h0, if_pos h0]
    exact ⟨by decide, by simp⟩
  · rw [if_neg h0, if_neg h0]
    exact ⟨hex_hx4 _ (by omega), by simp [hx4]⟩
theorem fst_one {s : Str} {n m : Nat} (h : Fst s n) (k : Fst s m) : n = m := by
  have h1 := (szT_hex n h.1).1
  have h2 := (szT_hex m k.1).1
  rw [← h.2.2, k.2.2, h2] at h1
  have h3 := Option.some.inj h1
  by_cases hn : n = 0 <;> by_cases hm : m = 0 <;> simp [hn, hm] at h3 <;> omega
def PostF (a : Option Addr) (cap : Nat) (s : Str) (w : World) (e : Ending) (w' : World) : Prop :=
  Below w.heap.size w w' ∧ ((∃ n, Fst s n ∧ e = .returned (.tuple #[.slice (adX 1 a cap 4) n (cap - 4 : Nat), .slice (adX 1 a cap (4 + n)) (s.length - (4 + n) : Nat) (cap - (4 + n) : Nat), .nilIface])) ∨ ((¬ ∃ n, Fst s n) ∧ e = .returned (.tuple #[.slice none 0 0, .slice none 0 0, .iface 37 (.int .i64 110)])))
theorem Tryz.results107 : Tryz.f107.results = #[.tmp 2, .tmp 3, .tmp 4] := by kernel_rfl
end Go.Proofs.YtijeogdnjeamaaaGreatDoor
namespace Go.Proofs.YtijeogdnjeamaaaGreatDoor
open Go.RowKit
set_option linter.unusedVariables false
set_option linter.unusedSimpArgs false
theorem sl4 (a : Option Addr) (n cap j : Nat) (h : j ≤ cap) (w : World) : (Instr.slice 25 (.slice a n cap) none (some (.int .i64 j)) none).run Tryz.prog w = .ok (.slice a j cap) w := by
  rw [run_slice_h w 25 a n cap elem22 .i64 j (by omega) (by omega), size22e, Result.andThen_ok, sliced]
  congr 2
  split
  · rfl
  · cases a with
    | none => rfl
    | some p => obtain ⟨b, o, f⟩ := p; simp [Addr.add]
theorem szT_len (n : Nat) : (szT n).length = 4 := by
  unfold szT
  split <;> simp [hx4]
set_option maxRecDepth 20000 in
set_option maxHeartbeats 2000000 in
theorem first_any {w : World} (a : Option Addr) (cap : Nat) (s : Str) (hP : PB w a cap s) (hl : s.length ≤ 1000000) (he : Ers w) (hd : Db w) : Calls Tryz.prog 107 #[.slice a s.length cap] w (PostF a cap s w) := by
  obtain ⟨m, HM⟩ : ∃ m, Hid (s.length = m) := ⟨_, rfl⟩
  have hm : m ≤ 1000000 := by rw [← HM.out]; exact hl
  have hcap : m ≤ cap := by rw [← HM.out]; exact hP.capl
  have HPB := hid hP
  have HD := hid hd
  by_cases h4 : m < 4
  · have h4i : (m : Int) < 4 := by omega
    have HN : Hid (¬ ∃ n, Fst s n) := hid (by rintro ⟨n, h⟩; have := h.2.1; rw [HM.out] at this; omega)
    rw [HM.out]
    go_enter Tryz.func107, Tryz.ntmps107
    go_wp2
    refine bodyPost_ret (results_tmp3 Tryz.results107 _ _ _) rfl ?_
    exact ⟨Below.refl _ _, .inr ⟨HN.out, rfl⟩⟩
  have h4i : ¬ (m : Int) < 4 := by omega
  obtain ⟨t, HT⟩ : ∃ t, Hid (s.take 4 = t) := ⟨_, rfl⟩
  have htl : t.length = 4 := by rw [← HT.out, List.length_take, HM.out]; omega
  obtain ⟨S, HS⟩ : ∃ S : ByteArray, Hid (⟨t.toArray⟩ = S) := ⟨_, rfl⟩
  have hs4 : ∀ W : World, (Instr.slice 25 (.slice a m cap) none (some (.int .i64 4)) none).run Tryz.prog W = .ok (.slice a 4 cap) W := fun W => sl4 a m cap 4 (by omega) W
  have hcv : (convert 25 9 (.slice a 4 cap)).run Tryz.prog w = .ok (.string S) w := by
    have hp : PB w a cap t := by rw [← HT.out]; exact hP.take 4
    have := conv_str hp
    rw [htl] at this
    rw [← HS.out]
    exact this
  have C31 : Hid (Calls Tryz.prog 126 #[.string S, .int .i64 16, .int .i64 16] w fun e w' => PV t e ∧ Below w.heap.size w w') := hid (by rw [← HS.out]; exact parseU t (by omega) w he)
  rw [HM.out]
  clear hP hl he hd
  go_enter Tryz.func107, Tryz.ntmps107
  go_wp2_with fail
  refine C31.out.mono ?_
  rintro e w1 ⟨⟨v, ev, rfl, v0, v1, hor, hrd⟩, hb1⟩
  have HB1 := hid hb1
  have HRD := hid hrd
  have HD1 := hid (HD.out.below hb1)
  have HP1 : Hid (PB w1 a cap s) := hid (HPB.out.below hb1)
  clear hb1 hrd
  rcases hor with rfl | ⟨N, rfl⟩
  rotate_left
  · have HN : Hid (¬ ∃ n, Fst s n) := hid (by
      rintro ⟨n, h⟩
      have h3 := szT_hex n h.1
      rw [← h.2.2, HT.out] at h3
      have := (HRD.out _ h3.2 h3.1).2
      cases this)
    go_wp2
    refine bodyPost_ret (results_tmp3 Tryz.results107 _ _ _) rfl ?_
    exact ⟨HB1.out, .inr ⟨HN.out, rfl⟩⟩
  obtain ⟨q, HQ⟩ : ∃ q : Nat, Hid (max v 4 = (q : Int)) := ⟨(max v 4).toNat, hid (by omega)⟩
  have hq4 : 4 ≤ q := by have := HQ.out; omega
  have hqb : q ≤ 65535 := by have := HQ.out; omega
  have hvw : IntKind.i64.wrap v = v := by rw [IntKind.wrap_i64]; omega
  have HFQ : Hid (∀ n, Fst s n → q = 4 + n) := hid (fun n h => by
    have h3 := szT_hex n h.1
    rw [← h.2.2, HT.out] at h3
    have h5 := (HRD.out _ h3.2 h3.1).1
    have h6 := HQ.out
    by_cases h0 : n = 0
    · rw [if_pos h0] at h5; omega
    · rw [if_neg h0] at h5; omega)
  have hmx : (if v < 4 then (4 : Int) else v) = (q : Int) := by have := HQ.out; split <;> omega
  have hmx2 : (if (4 : Int) < v then v else 4) = (q : Int) := by have := HQ.out; split <;> omega
  have hmx3 : (if v ≤ 4 then (4 : Int) else v) = (q : Int) := by have := HQ.out; split <;> omega
  have hmx4 : max v 4 = (q : Int) := HQ.out
  have HBF : Hid (Below w.heap.size w w1) := HB1
  by_cases hbig : 1004 < q ∨ m < q
  · have HN : Hid (¬ ∃ n, Fst s n) := hid (by
      rintro ⟨n, h⟩
      have h1 := HFQ.out n h
      have h2 := h.1
      have h3 := h.2.1
      rw [HM.out] at h3
      omega)
    by_cases hb1 : 1004 < q
    · have hb1i : (1004 : Int) < (q : Int) := by omega
      clear hbig
      go_wp2
      refine bodyPost_ret (results_tmp3 Tryz.results107 _ _ _) rfl ?_
      exact ⟨HBF.out, .inr ⟨HN.out, rfl⟩⟩
    · have hb1i : ¬ (1004 : Int) < (q : Int) := by omega
      have hb2i : (m : Int) < (q : Int) := by omega
      clear hbig
      go_wp2
      refine bodyPost_ret (results_tmp3 Tryz.results107 _ _ _) rfl ?_
      exact ⟨HBF.out, .inr ⟨HN.out, rfl⟩⟩
  have hb1i : ¬ (1004 : Int) < (q : Int) := by omega
  have hb2i : ¬ (m : Int) < (q : Int) := by omega
  obtain ⟨n, HNn⟩ : ∃ n, Hid (q - 4 = n) := ⟨_, rfl⟩
  have hqn : q = 4 + n := by rw [← HNn.out]; omega
  obtain ⟨A4, HA4⟩ : ∃ x, Hid (adX 1 a cap 4 = x) := ⟨_, rfl⟩
  obtain ⟨c4, HC4⟩ : ∃ x, Hid (cap - 4 = x) := ⟨_, rfl⟩
  have hsl : ∀ W : World, (Instr.slice 25 (.slice a m cap) (some (.int .i64 4)) (some (.int .i64 (q : Int))) none).run Tryz.prog W = .ok (.slice A4 n c4) W := fun W => by
    have := sl22 a m cap 4 q (q : Int) rfl (by omega) (by omega) W
    rw [HA4.out, HC4.out, HNn.out] at this
    exact this
  have C17 : Hid (Calls Tryz.prog 94 #[.slice A4 n c4] w1 fun e w' => e = .returned (.string ⟨(szT n).toArray⟩) ∧ Below w1.heap.size w1 w') := hid (sizeOf_any A4 n c4 (by omega) w1 HD1.out)
  obtain ⟨Z, HZ⟩ : ∃ Z : ByteArray, Hid (⟨(szT n).toArray⟩ = Z) := ⟨_, rfl⟩
  rw [HZ.out] at C17
  obtain ⟨Aq, HAq⟩ : ∃ x, Hid (adX 1 a cap q = x) := ⟨_, rfl⟩
  obtain ⟨cq, HCq⟩ : ∃ x, Hid (cap - q = x) := ⟨_, rfl⟩
  obtain ⟨mq, HMq⟩ : ∃ x, Hid (m - q = x) := ⟨_, rfl⟩
  have hslq : ∀ W : World, (Instr.slice 25 (.slice a m cap) (some (.int .i64 (q : Int))) none none).run Tryz.prog W = .ok (.slice Aq mq cq) W := fun W => by
    have := sl22l a m cap q (by omega) W
    rw [HAq.out, HCq.out, HMq.out] at this
    exact this
  have HQN := hid hqn
  clear hbig hqn
  go_wp2_with fail
  refine C17.out.mono ?_
  rintro e w2 ⟨rfl, hb2⟩
  have HB2 : Hid (Below w.heap.size w w2) := hid (HB1.out.trans (hb2.mono HB1.out.size))
  clear hb2
  by_cases heq : szT n = t
  · have hbq : (Z.toList == S.toList) = true := by rw [← HZ.out, ← HS.out, heq]; simp
    have hbn : (Z.toList != S.toList) = false := by rw [bne, hbq]; rfl
    have HF : Hid (Fst s n) := hid ⟨by have := HQN.out; omega, by rw [HM.out]; have := HQN.out; omega, by rw [HT.out, heq]⟩
    clear heq
    go_wp2_with fail
    have HBd : Hid (Below w.heap.size w w2.drew) := hid (Below.drewR HB2.out)
    refine wp_region_held_drew (S := fun _ => True) (by kernel_rfl) trivial (fun hHeld => ?_)
    generalize w2.drew = wd at HBd ⊢
    refine takeL (i := 0) (v := ?_) rfl (by kernel_rfl) (by kernel_rfl) (by kernel_rfl) (fun _ _ _ h => h) (Or.inl ⟨by rfl, ?_⟩) hHeld ?_
    rotate_left
    · rintro w' _; go_simp; rfl
    try simp only [Act.put, List.setIfInBounds_toArray, List.set_cons_zero, List.set_cons_succ]
    refine takeL (i := 1) (v := ?_) rfl (by kernel_rfl) (by kernel_rfl) (by kernel_rfl) (fun _ _ _ h => h) (Or.inl ⟨by rfl, ?_⟩) hHeld ?_
    rotate_left
    · rintro w' _; go_simp; rfl
    try simp only [Act.put, List.setIfInBounds_toArray, List.set_cons_zero, List.set_cons_succ]
    refine takeL (i := 2) (v := ?_) rfl (by kernel_rfl) (by kernel_rfl) (by kernel_rfl) (fun _ _ _ h => h) (Or.inl ⟨by rfl, ?_⟩) hHeld ?_
    rotate_left
    · rintro w' _; go_simp; rfl
    try simp only [Act.put, List.setIfInBounds_toArray, List.set_cons_zero, List.set_cons_succ]
    refine takeL (i := 3) (v := .slice Aq mq cq) rfl (by kernel_rfl) (by kernel_rfl) (by kernel_rfl) (fun _ _ _ h => h) (Or.inl ⟨by rfl, ?_⟩) hHeld ?_
    · rintro w' _; go_simp; try rfl
    try simp only [Act.put, List.setIfInBounds_toArray, List.set_cons_zero, List.set_cons_succ]
    refine takeL (i := 4) (v := ?_) rfl (by kernel_rfl) (by kernel_rfl) (by kernel_rfl) (fun _ _ _ h => h) (Or.inl ⟨by rfl, ?_⟩) hHeld ?_
    rotate_left
    · rintro w' _; go_simp; rfl
    try simp only [Act.put, List.setIfInBounds_toArray, List.set_cons_zero, List.set_cons_succ]
    refine takeL (i := 5) (v := ?_) rfl (by kernel_rfl) (by kernel_rfl) (by kernel_rfl) (fun _ _ _ h => h) (Or.inl ⟨by rfl, ?_⟩) hHeld ?_
    rotate_left
    · rintro w' _; go_simp; rfl
    try simp only [Act.put, List.setIfInBounds_toArray, List.set_cons_zero, List.set_cons_succ]
    refine takeL (i := 6) (v := ?_) rfl (by kernel_rfl) (by kernel_rfl) (by kernel_rfl) (fun _ _ _ h => h) (Or.inl ⟨by rfl, ?_⟩) hHeld ?_
    rotate_left
    · rintro w' _; go_simp; rfl
    try simp only [Act.put, List.setIfInBounds_toArray, List.set_cons_zero, List.set_cons_succ]
    refine wpAnyH_done (by kernel_rfl) ?_ _
    clear hHeld
    go_wp2
    refine bodyPost_ret (results_tmp3 Tryz.results107 _ _ _) rfl ?_
    refine ⟨HBd.out, .inl ⟨n, HF.out, ?_⟩⟩
    rw [← HQN.out, HA4.out, HC4.out, HAq.out, HCq.out, HM.out, HMq.out]
    rfl
  · have hbq : (Z.toList == S.toList) = false := bne_txt HZ.out HS.out heq
    have hbn : (Z.toList != S.toList) = true := by rw [bne, hbq]; rfl
    have HN : Hid (¬ ∃ n, Fst s n) := hid (by
      rintro ⟨k, h⟩
      have h1 := HFQ.out k h
      have h2 := HQN.out
      have h3 : k = n := by omega
      subst h3
      exact heq (by rw [← HT.out, h.2.2]))
    clear heq
    go_wp2
    refine bodyPost_ret (results_tmp3 Tryz.results107 _ _ _) rfl ?_
    exact ⟨HB2.out, .inr ⟨HN.out, rfl⟩⟩
end Go.Proofs.YtijeogdnjeamaaaGreatDoor
namespace Go.Proofs.YtijeogdnjeamaaaGreatDoor
open Go.RowKit
set_option linter.unusedVariables false
set_option linter.unusedSimpArgs false
theorem run_empty (w : World) : (Instr.buildSlice 25 0 #[]).run Tryz.prog w = .ok (.slice (some ⟨w.heap.size, 0, none⟩) 0 0) (w.alloc (.cells #[] 5)) := by
  obtain ⟨i, hq, hz, hs, _⟩ := info_parts Tryz.info5
  simp [Instr.buildSlice, run_underlying Tryz.underlying25, sizeOf, typeInfo, hq, hs, Instr.fill, newRow]
  have e : Array.map (fun x : Nat => (default : Value)) (Array.range 0) = #[] := Array.ext' (by simp)
  rw [e]
theorem own_empty (w : World) : (w.alloc (.cells #[] 5)).ownsRow w.heap.size 5 1 (.slice (some ⟨w.heap.size, 0, none⟩) 0 0) ([] : Str).length (bv []) :=
  ⟨rfl, .inr ⟨w.heap.size, 0, _, rfl, Nat.le_refl _, heap_alloc_new w _, Nat.le_refl _, by decide, rfl, rfl⟩⟩
theorem eq_nil (p : Addr) (n cap : Nat) (w : World) : (binOp .eql 25 (.slice (some p) n cap) (.slice none 0 0)).run Tryz.prog w = .ok (.bool false) w := by
  first
    | (simp [binOp, Op.equal, Op.equalIn, run_underlying Tryz.underlying25]; done)
    | (simp [go_sem, binOp, run_underlying Tryz.underlying25]; done)
    | kernel_rfl
set_option maxRecDepth 20000 in
theorem clone_any {w : World} (p : Addr) (cap : Nat) (s : Str) (hP : PB w (some p) cap s) (hl : s.length ≤ 1000000) : Calls Tryz.prog 83 #[.slice (some p) s.length cap] w fun e w' => ∃ v, e = .returned v ∧ w'.ownsRow w.heap.size 5 1 v s.length (bv s) ∧ Below w.heap.size w w' := by
  obtain ⟨n, HN⟩ : ∃ n, Hid (s.length = n) := ⟨_, rfl⟩
  obtain ⟨W0, HW0⟩ : ∃ W, Hid (w.alloc (.cells #[] 5) = W) := ⟨_, rfl⟩
  have hbe := run_empty w
  rw [HW0.out] at hbe
  have HO : Hid (W0.ownsRow w.heap.size 5 1 (.slice (some ⟨w.heap.size, 0, none⟩) 0 0) ([] : Str).length (bv [])) := hid (by rw [← HW0.out]; exact own_empty w)
  have HB0 : Hid (Below w.heap.size w W0) := hid (by rw [← HW0.out]; exact (Below.refl _ _).alloc (Nat.le_refl _) _)
  have HP0 : Hid (PB W0 (some p) cap s) := hid (hP.below HB0.out)
  have hs0 : w.heap.size ≤ W0.heap.size := HB0.out.size
  have HL := hid hl
  have heqn : ∀ W : World, (binOp .eql 25 (.slice (some p) n cap) (.slice none 0 0)).run Tryz.prog W = .ok (.bool false) W := fun W => eq_nil p n cap W
  rw [HN.out]
  clear hP hl
  go_enter Tryz.func83, Tryz.ntmps83
  go_wp2_with (first | (at_builtin; rw [HW0.out]; refine wpList_own rfl _ _ rfl w.heap.size _ [] rfl HO.out hs0 (some p) cap s (by rw [HN.out]; rfl) HP0.out (by have := HL.out; simp; omega) ?_; intro v2 w2 ho2 hg2 hl2) | fail)
  have HO2 : Hid (w2.ownsRow w.heap.size 5 1 v2 s.length (bv s)) := hid (by simpa using ho2)
  have HB2 : Hid (Below w.heap.size w w2) := hid (HB0.out.grown hg2 hs0 (fun q hq => (own_lt HO.out q hq).1))
  clear ho2 hg2 hl2
  go_wp2
  go_ret
  exact ⟨_, rfl, by rw [← HN.out]; exact HO2.out, HB2.out⟩
def pkt (s : Str) : Str := szT s.length ++ s
end Go.Proofs.YtijeogdnjeamaaaGreatDoor
namespace Go.Proofs.YtijeogdnjeamaaaGreatDoor
open Go.RowKit
set_option linter.unusedVariables false
set_option linter.unusedSimpArgs false
theorem pkt_len (s : Str) : (pkt s).length = 4 + s.length := by unfold pkt; rw [List.length_append, szT_len]
theorem Db.b {w w' : World} {B : Nat} (h : Db w) (hb : Below B w w') (hB : B = w.heap.size) : Db w' := by subst hB; exact h.below hb
end Go.Proofs.YtijeogdnjeamaaaGreatDoor
