/- The document's 'part'. -/
import Derived.Test.YtblegkefeiefjaaDoorRsA
import Derived.Test.YtblegkefeiefjaaDoorStC
namespace Go.Proofs.YtblegkefeiefjaaDoor
open Go.RowKit Plain
set_option linter.unusedVariables false
set_option linter.unusedSimpArgs false
theorem Tryd.results17 : Tryd.f17.results = #[.tmp 8, .tmp 9, .tmp 10] := by kernel_rfl
def slenP : Value → Nat
  | .slice _ n _ => n
  | _ => 0
/-- In the same block. -/
def SameB (a0 a : Option Addr) : Prop := ∀ p, a = some p → ∃ p0, a0 = some p0 ∧ p.block = p0.block
theorem SameB.trans {a b c : Option Addr} (h : SameB a b) (k : SameB b c) : SameB a c := fun p hp => by
  obtain ⟨p0, h0, e0⟩ := k p hp
  obtain ⟨p1, h1, e1⟩ := h p0 h0
  exact ⟨p1, h1, e0.trans e1⟩
theorem SameB.refl (a : Option Addr) : SameB a a := fun p hp => ⟨p, hp, rfl⟩
/-- What the document's reading of a copy's number leaves. -/
def PostP (a0 : Option Addr) (w : World) (r : Option (Nat × List Int)) (ev : Ending) (w' : World) : Prop :=
  w' = w ∧ match r with
  | none => ∃ a cap, ev = .returned (.tuple #[.int .i64 0, .slice a 0 cap, .bool false]) ∧ Sl w a cap [] ∧ SameB a0 a
  | some (n, l) => ∃ a cap, ev = .returned (.tuple #[.int .i64 n, .slice a l.length cap, .bool true]) ∧ Sl w a cap l ∧ SameB a0 a ∧ n < 4294967296
theorem pow32 {j : Nat} (h : j ≤ 4) : 2 ^ (8 * j) ≤ 4294967296 := Nat.pow_le_pow_right (n := 2) (j := 32) (by omega) (by omega)
theorem b255 : 255 * 4294967296 < 9223372036854775808 := by decide
set_option maxRecDepth 20000 in
set_option maxHeartbeats 1000000 in
theorem part_any (a0 : Option Addr) (cap0 f c t op : Nat) (bs : List Int) (w : World) (hz : IsB bs) (hl : bs.length ≤ 400000) (h0 : Sl w a0 cap0 bs) (hc : c ≤ 4) (hf : f ≤ 4) (ht : t + 1 = f + c) (hop : op < 256) :
    Calls Tryd.prog 17 #[.slice a0 bs.length cap0, .int .i64 op, .int .i64 f, .int .i64 t] w (PostP a0 w (prt c op f 0 0 bs)) := by
  obtain ⟨R, HR⟩ : ∃ R, Hid (prt c op f 0 0 bs = R) := ⟨_, rfl⟩
  rw [HR.out]
  have H0 : Hid _ := h0
  have HZ : Hid _ := hz
  clear hz h0
  go_enter Tryd.func17, Tryd.ntmps17
  go_wp2_with fail
  go_loopg [0, 11, 12] c (fun g bv nv kv wr => ∃ (j K n : Nat) (r : List Int) (a : Option Addr) (cap : Nat), j ≤ c ∧ Hid (K = f + j) ∧ bv = .slice a r.length cap ∧ nv = .int .i64 n ∧ kv = .int .i64 K ∧ g = c - j ∧ wr = w ∧ Hid (n < 2 ^ (8 * j)) ∧ Hid (IsB r) ∧ r.length ≤ 400000 ∧ Hid (Sl w a cap r) ∧ Hid (SameB a0 a) ∧ Hid (prt (c - j) op K j n r = R))
  case atStart => exact ⟨0, f, 0, bs, a0, cap0, by omega, (rfl : f = f + 0), rfl, rfl, rfl, rfl, rfl, Nat.two_pow_pos _, HZ.out, hl, H0.out, SameB.refl _, HR.out⟩
  case round =>
    obtain ⟨j, K, n, r, a, cap, hj, HK, rfl, rfl, rfl, hg, rfl, HN, HB, hrl, HSl, HSB, HP⟩ := hrel
    obtain ⟨L, HL⟩ : ∃ L, Hid (L = r.length) := ⟨_, rfl⟩
    rw [← HL.out] at hrl ⊢
    have hK7 : K ≤ 8 := by have := HK.out; omega
    by_cases hjc : j < c
    · have hKZ : (K : Int) ≤ t := by have := HK.out; omega
      have HPP : Hid _ := HP.out
      rw [show c - j = (c - (j + 1)) + 1 by omega, prt] at HPP
      obtain ⟨z, HZZ⟩ : ∃ z, Hid (z = op / 2 ^ K % 2) := ⟨_, rfl⟩
      have hzb : ((op : Int) / 2 ^ K).tmod 2 = (z : Int) := by
        rw [HZZ.out, Int.tmod_eq_emod_of_nonneg (by exact Int.ediv_nonneg (by omega) (by exact_mod_cast Nat.zero_le _))]
        push_cast
        rfl
      rw [← HZZ.out] at HPP
      by_cases hz0 : z = 0
      · have hz0Z : (z : Int) = 0 := by omega
        rw [if_pos hz0] at HPP
        rw [hz0Z] at hzb
        go_wp2_with fail
        go_roundg (c - (j + 1))
        case measure => omega
        case rel => exact ⟨j + 1, K + 1, n, r, a, cap, by omega, (by have := HK.out; omega : K + 1 = f + (j + 1)), by rw [HL.out], rfl, by go_num, rfl, rfl, Nat.lt_of_lt_of_le HN.out (Nat.pow_le_pow_right (by omega) (by omega)), HB.out, by rw [← HL.out]; exact hrl, HSl.out, HSB.out, HPP.out⟩
      · have hz0Z : ¬ (z : Int) = 0 := by omega
        rw [if_neg hz0] at HPP
        by_cases hL0 : L = 0
        · subst hL0
          have hr0 : r = [] := List.eq_nil_of_length_eq_zero HL.out.symm
          rw [if_pos hr0] at HPP
          go_wp2_with fail
          refine bodyPost_ret (results_3 Tryd.results17 _ _ _ _ _ rfl rfl rfl) rfl ?_
          rw [← HPP.out]
          exact ⟨rfl, a, cap, rfl, by rw [← hr0]; exact HSl.out, HSB.out⟩
        · have hL0Z : ¬ (L : Int) = 0 := by omega
          have hLp : (0 : Int) < L := by omega
          have hrne : ¬ r = [] := fun e => hL0 (by rw [HL.out, e]; rfl)
          rw [if_neg hrne] at HPP
          obtain ⟨b, off, rfl, hb, hat⟩ := HSl.out.at_ (by rw [← HL.out]; omega)
          have h0r : 0 < r.length := by rw [← HL.out]; omega
          have c0 := hat 0 h0r
          obtain ⟨x, HX⟩ : ∃ x : Nat, Hid (r.getD 0 0 = (x : Int)) := ⟨(r.getD 0 0).toNat, by show _ = _; have := HB.out.get 0; rw [List.getD_eq_getElem?_getD]; omega⟩
          have hx : x < 256 := by have := HX.out; have h2 := HB.out.get 0; rw [List.getD_eq_getElem?_getD] at this; omega
          rw [Nat.add_zero, HX.out] at c0
          rw [HX.out, Int.toNat_natCast] at HPP
          have HAT : Hid _ := hat
          clear hat
          have hcapL : L ≤ cap := by rw [HL.out]; exact HSl.out.capl
          have hsub : (K : Int) - (f : Int) = (j : Int) := by have := HK.out; omega
          obtain ⟨sh, HSH⟩ : ∃ sh, Hid (sh = 8 * j) := ⟨_, rfl⟩
          have hsh : (8 : Int) * (j : Int) = (sh : Int) := by rw [HSH.out]; push_cast; rfl
          have hsh32 : sh ≤ 32 := by rw [HSH.out]; omega
          obtain ⟨v, HV⟩ : ∃ v, Hid (v = n + x * 2 ^ (8 * j)) := ⟨_, rfl⟩
          obtain ⟨tt, HT⟩ : ∃ tt, Hid (tt = x * 2 ^ (8 * j)) := ⟨_, rfl⟩
          have HVV : Hid (v < 2 ^ (8 * (j + 1))) := by
            show _ < _
            rw [HV.out, show 8 * (j + 1) = 8 * j + 8 by omega, Nat.pow_add]
            have : (x + 1) * 2 ^ (8 * j) ≤ 256 * 2 ^ (8 * j) := Nat.mul_le_mul (by omega) (Nat.le_refl _)
            rw [Nat.add_mul, Nat.one_mul] at this
            rw [Nat.mul_comm (2 ^ (8 * j))]
            have := HN.out
            omega
          have hv32 : v < 4294967296 := Nat.lt_of_lt_of_le HVV.out (pow32 (by omega))
          rw [← HV.out] at HPP
          rw [← HT.out] at HV
          have hmul : (x : Int) * 2 ^ sh = (tt : Int) := by rw [HT.out, HSH.out]; push_cast; rfl
          have htt : tt ≤ v := by rw [HV.out]; omega
          have hadd : (n : Int) + (tt : Int) = (v : Int) := by rw [HV.out]; push_cast; rfl
          obtain ⟨ad, HAD⟩ : ∃ ad, Hid ((if cap = 1 then some (⟨b, off, none⟩ : Addr) else some ⟨b, off + 1, none⟩) = ad) := ⟨_, rfl⟩
          have had := HAD.out
          have HSB2 : Hid (SameB a0 ad) := SameB.trans HSB.out (fun p hp => by rw [← HAD.out] at hp; split at hp <;> (cases hp; exact ⟨_, rfl, rfl⟩))
          have HSL : Hid (Sl wr ad (cap - 1) (r.drop 1)) := ⟨by rw [List.length_drop, ← HL.out]; omega, fun h => by
            rw [List.length_drop, ← HL.out] at h
            rw [← HAD.out, if_neg (by omega)]
            exact ⟨b, off + 1, rfl, hb, at_drop HAT.out 1 (by rw [← HL.out]; omega)⟩, fun h => by rw [← HAD.out] at h; split at h <;> cases h⟩
          go_wp2_with fail
          go_roundg (c - (j + 1))
          case measure => omega
          case rel => exact ⟨j + 1, K + 1, v, r.drop 1, ad, cap - 1, by omega, (by have := HK.out; omega : K + 1 = f + (j + 1)), by rw [List.length_drop, ← HL.out], by first | rfl | go_num, by go_num, rfl, rfl, HVV.out, isB_drop HB.out 1, by rw [List.length_drop, ← HL.out]; omega, HSL.out, HSB2.out, HPP.out⟩
    · have hKZ : ¬ (K : Int) ≤ t := by have := HK.out; omega
      rw [show c - j = 0 by omega, prt] at HP
      go_wp2_with fail
      refine bodyPost_ret (results_3 Tryd.results17 _ _ _ _ _ rfl rfl rfl) rfl ?_
      rw [← HP.out]
      exact ⟨rfl, a, cap, by rw [HL.out]; rfl, HSl.out, HSB.out, Nat.lt_of_lt_of_le HN.out (pow32 (by omega))⟩
end Go.Proofs.YtblegkefeiefjaaDoor
