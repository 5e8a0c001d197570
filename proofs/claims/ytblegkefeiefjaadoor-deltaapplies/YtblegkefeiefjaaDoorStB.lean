/- The program's 'readCopy'. -/
import Derived.Test.YtblegkefeiefjaaDoorStA
namespace Go.Proofs.YtblegkefeiefjaaDoor
open Go.RowKit Plain
set_option linter.unusedVariables false
set_option linter.unusedSimpArgs false

theorem bit_at : ∀ op, op < 256 → ∀ j, j < 7 → bits .and .u8 (((op : Nat) : Int) / 2 ^ j) 1 = ((op / 2 ^ j % 2 : Nat) : Int) := by decide +kernel
theorem u64_or_nat (a b : Nat) (ha : a < 18446744073709551616) (hb : b < 18446744073709551616) : bits .or .u64 (a : Int) (b : Int) = ((a ||| b : Nat) : Int) := by
  have hx : a ||| b < 2 ^ 64 := Nat.or_lt_two_pow (by omega) (by omega)
  show IntKind.u64.wrap ((BitVec.ofInt 64 (a : Int) ||| BitVec.ofInt 64 (b : Int)).toNat : Int) = _
  rw [BitVec.toNat_or, ofInt_u64 a (by omega), ofInt_u64 b (by omega), IntKind.wrap_u64]; omega
theorem u64_and_nat (a b : Nat) (ha : a < 18446744073709551616) (hb : b < 18446744073709551616) : bits .and .u64 (a : Int) (b : Int) = ((a &&& b : Nat) : Int) := by
  have hx : a &&& b < 2 ^ 64 := Nat.and_lt_two_pow _ (by omega)
  show IntKind.u64.wrap ((BitVec.ofInt 64 (a : Int) &&& BitVec.ofInt 64 (b : Int)).toNat : Int) = _
  rw [BitVec.toNat_and, ofInt_u64 a (by omega), ofInt_u64 b (by omega), IntKind.wrap_u64]; omega
theorem low32 (n : Nat) (h : n < 18446744073709551616) : bits .and .u64 (n : Int) 4294967295 = ((n % 4294967296 : Nat) : Int) := by
  rw [show (4294967295 : Int) = ((4294967295 : Nat) : Int) from rfl, u64_and_nat _ _ h (by omega), show (4294967295 : Nat) = 2 ^ 32 - 1 from rfl, Nat.and_two_pow_sub_one_eq_mod]
theorem pow56 {j : Nat} (h : j ≤ 7) : 2 ^ (8 * j) ≤ 72057594037927936 := Nat.pow_le_pow_right (n := 2) (j := 56) (by omega) (by omega)
theorem Tryd.results35 : Tryd.f35.results = #[.tmp 4, .tmp 5] := by kernel_rfl
/-- What a step's reading leaves. -/
def PostS (a0 : Option Addr) (nb b : Nat) (bs : List Int) (w : World) (r : Option (List Int × List Int)) (ev : Ending) (w' : World) : Prop :=
  w' = w ∧ match r with
  | none => ev = .returned (.tuple #[.slice none 0 0, .int .i64 0])
  | some (c, rest) => ∃ a cap u : Nat, ∃ ad : Option Addr, ev = .returned (.tuple #[.slice ad c.length cap, .int .i64 u]) ∧ rest = bs.drop u ∧ 1 ≤ u ∧ u ≤ bs.length ∧ Sl w ad cap c ∧ ∀ p : Addr, ad = some p → p.block = b ∨ ∃ p0, a0 = some p0 ∧ p.block = p0.block ∧ 0 < nb
theorem at_sub {w : World} {b off : Nat} {l : List Int} (h : At w b off l) (j n : Nat) (hj : j + n ≤ l.length) : At w b (off + j) ((l.drop j).take n) := fun i hi => by
  have hl : i < n := by simp at hi; omega
  have := h (j + i) (by omega)
  rw [Nat.add_assoc, this]
  simp [List.getD_eq_getElem?_getD, List.getElem?_take, hl]
set_option maxRecDepth 20000 in
set_option maxHeartbeats 4000000 in
theorem readCopy_any (a0 : Option Addr) (cap0 b off cap : Nat) (base bs : List Int) (w : World) (hz : IsB bs) (hl : bs.length ≤ 400000) (hl0 : base.length ≤ 400000) (h0 : Sl w a0 cap0 base) (h1 : 0 < bs.length) (hat : At w b off bs) (op : Nat) (hop : bs.getD 0 0 = (op : Int)) (hop8 : 128 ≤ op) :
    Calls Tryd.prog 35 #[.slice a0 base.length cap0, .slice (some ⟨b, off, none⟩) bs.length cap] w (PostS a0 base.length b bs w (stp base bs)) := by
  have hopb : op < 256 := by have := hz.get 0; rw [List.getD_eq_getElem?_getD] at hop; omega
  obtain ⟨R, HR⟩ : ∃ R, Hid (plc bs op 7 0 1 0 = R) := ⟨_, rfl⟩
  have HTWO : Hid _ := plc_two bs op h1 hz
  have c0 := hat 0 h1
  rw [Nat.add_zero, hop] at c0
  have HSTP : Hid (stp base bs = match prt 4 op 0 0 0 (bs.drop 1) with
      | none => none
      | some (at_, r1) => match prt 3 op 4 0 0 r1 with
        | none => none
        | some (c, r2) => if at_ + cnt c ≤ base.length then some ((base.drop at_).take (cnt c), r2) else none) := by
    show _ = _
    obtain ⟨x, t, rfl⟩ : ∃ x t, bs = x :: t := by cases bs with | nil => simp at h1 | cons x t => exact ⟨x, t, rfl⟩
    have hx : x = (op : Int) := by simpa using hop
    rw [stp, hx, if_neg (by omega), if_neg (by omega), Int.toNat_natCast]
    rfl
  have HZ : Hid _ := hz
  have HAT : Hid _ := hat
  have H0 : Hid _ := h0
  obtain ⟨L, HL⟩ : ∃ L, Hid (L = bs.length) := ⟨_, rfl⟩
  rw [← HL.out] at hl h1 ⊢
  obtain ⟨L0, HL0⟩ : ∃ L0, Hid (L0 = base.length) := ⟨_, rfl⟩
  rw [← HL0.out] at hl0 ⊢
  have h1Z : (0 : Int) < L := by omega
  clear hz hat h0 hop
  go_enter Tryd.func35, Tryd.ntmps35
  go_wp2_with fail
  go_loopg [5, 6, 10] 7 (fun k us pl i wr => ∃ j u n : Nat, j ≤ 7 ∧ us = .int .i64 u ∧ pl = .int .u64 n ∧ i = .int .i64 j ∧ k = 7 - j ∧ wr = w ∧ 1 ≤ u ∧ u ≤ L ∧ n < 2 ^ (8 * j) ∧ Hid (plc bs op (7 - j) j u n = R))
  case atStart => exact ⟨0, 1, 0, by omega, rfl, rfl, rfl, rfl, rfl, by omega, by omega, by simp, HR.out⟩
  case round =>
    obtain ⟨j, u, n, hj, rfl, rfl, rfl, hk, rfl, hu1, huL, hn, HP⟩ := hrel
    by_cases hj7 : j < 7
    · have hjZ : (j : Int) < 7 := by omega
      rw [show 7 - j = (6 - j) + 1 by omega, plc] at HP
      obtain ⟨z, HZZ⟩ : ∃ z, Hid (z = op / 2 ^ j % 2) := ⟨_, rfl⟩
      have hzb : bits .and .u8 ((op : Int) / 2 ^ j) 1 = (z : Int) := by rw [HZZ.out]; exact bit_at op hopb j hj7
      rw [← HZZ.out] at HP
      by_cases hz0 : z = 0
      · subst hz0
        rw [if_pos rfl] at HP
        go_wp2_with fail
        go_roundg (7 - (j + 1))
        case measure => omega
        case rel =>
          exact ⟨j + 1, u, n, by omega, rfl, rfl, by go_num, rfl, rfl, hu1, huL, Nat.lt_of_lt_of_le hn (Nat.pow_le_pow_right (by omega) (by omega)), by rw [show 7 - (j + 1) = 6 - j by omega]; exact HP.out⟩
      · have hz0Z : ¬ (z : Int) = 0 := by omega
        rw [if_neg hz0] at HP
        by_cases hue : u = L
        · have hueZ : (u : Int) = (L : Int) := by omega
          rw [if_pos (by rw [← HL.out]; exact hue)] at HP
          have HN : Hid (stp base bs = none) := by
            show _ = _
            rw [HSTP.out]
            have hR : R = none := HP.out.symm
            have hh := HR.out
            rw [hR] at hh
            cases e1 : prt 4 op 0 0 0 (bs.drop 1) with
            | none => rfl
            | some nr =>
              obtain ⟨n1, r1⟩ := nr
              obtain ⟨g1, g2⟩ := HTWO.out.2 n1 r1 e1
              simp only
              cases e2 : prt 3 op 4 0 0 r1 with
              | none => rfl
              | some cr =>
                obtain ⟨c1, r2⟩ := cr
                obtain ⟨u', s1, _⟩ := g2 c1 r2 e2
                rw [hh] at s1; cases s1
          subst hue
          go_wp2_with fail
          go_ret2
          exact ⟨rfl, by rw [HN.out]; rfl⟩
        · have hueZ : ¬ (u : Int) = (L : Int) := by omega
          have hul : u < bs.length := by have := HL.out; omega
          rw [if_neg (by rw [← HL.out]; exact hue)] at HP
          have hxb := HZ.out _ (List.getElem_mem hul)
          obtain ⟨x, HX⟩ : ∃ x : Nat, Hid (bs.getD u 0 = (x : Int)) := ⟨(bs.getD u 0).toNat, by show _ = _; rw [List.getD_eq_getElem?_getD, List.getElem?_eq_getElem hul]; simp; omega⟩
          have hx : x < 256 := by have := HX.out; rw [List.getD_eq_getElem?_getD, List.getElem?_eq_getElem hul] at this; simp at this; omega
          have cu := HAT.out u hul
          rw [HX.out] at cu
          rw [HX.out, Int.toNat_natCast] at HP
          have huLZ : (u : Int) < (L : Int) := by omega
          have hp := pow56 (show j ≤ 7 by omega)
          have hpx : x * 2 ^ (8 * j) ≤ 255 * 72057594037927936 := Nat.mul_le_mul (by omega) hp
          obtain ⟨sh, HSH⟩ : ∃ sh, Hid (sh = 8 * j) := ⟨_, rfl⟩
          have hsh : (8 : Int) * (j : Int) = (sh : Int) := by rw [HSH.out]; push_cast; rfl
          obtain ⟨v, HV⟩ : ∃ v, Hid (v = n + x * 2 ^ (8 * j)) := ⟨_, rfl⟩
          have hv : v < 2 ^ (8 * (j + 1)) := by
            rw [HV.out, show 8 * (j + 1) = 8 * j + 8 by omega, Nat.pow_add]
            have : (x + 1) * 2 ^ (8 * j) ≤ 256 * 2 ^ (8 * j) := Nat.mul_le_mul (by omega) (Nat.le_refl _)
            rw [Nat.add_mul, Nat.one_mul] at this
            rw [Nat.mul_comm (2 ^ (8 * j))]
            omega
          have hor : bits .or .u64 (n : Int) (IntKind.u64.wrap ((x : Int) * 2 ^ sh)) = (v : Int) := by
            have e : (x : Int) * 2 ^ sh = ((x * 2 ^ (8 * j) : Nat) : Int) := by rw [HSH.out]; push_cast; rfl
            have e2 : IntKind.u64.wrap ((x * 2 ^ (8 * j) : Nat) : Int) = ((x * 2 ^ (8 * j) : Nat) : Int) := by rw [IntKind.wrap_u64]; omega
            rw [e, e2, u64_or_nat _ _ (by omega) (by omega), Nat.or_comm, nat_join (8 * j) _ _ (Nat.mul_mod_left _ _) hn, HV.out, Nat.add_comm]
          rw [← HV.out] at HP
          clear hxb hp hpx
          go_wp2_with fail
          go_roundg (7 - (j + 1))
          case measure => omega
          case rel =>
            exact ⟨j + 1, u + 1, v, by omega, by go_num, by first | rfl | go_num, by go_num, rfl, rfl, by omega, by omega, hv, by rw [show 7 - (j + 1) = 6 - j by omega]; exact HP.out⟩
    · obtain rfl : j = 7 := by omega
      have hjZ : ¬ (7 : Int) < 7 := by omega
      have key : ∃ n1 r1 c1 r2, prt 4 op 0 0 0 (bs.drop 1) = some (n1, r1) ∧ prt 3 op 4 0 0 r1 = some (c1, r2) ∧ n = n1 + c1 * 4294967296 ∧ r2 = bs.drop u ∧ n1 < 4294967296 ∧ c1 < 16777216 := by
        have hR : R = some (n, u) := HP.out.symm
        have hh := HR.out
        rw [hR] at hh
        cases e1 : prt 4 op 0 0 0 (bs.drop 1) with
        | none => have := HTWO.out.1 e1; rw [hh] at this; cases this
        | some nr =>
          obtain ⟨n1, r1⟩ := nr
          obtain ⟨g1, g2⟩ := HTWO.out.2 n1 r1 e1
          cases e2 : prt 3 op 4 0 0 r1 with
          | none => have := g1 e2; rw [hh] at this; cases this
          | some cr =>
            obtain ⟨c1, r2⟩ := cr
            obtain ⟨u', s1, s2, s3, s4, s5, s6⟩ := g2 c1 r2 e2
            rw [hh] at s1
            simp only [Option.some.injEq, Prod.mk.injEq] at s1
            exact ⟨n1, r1, c1, r2, rfl, e2, s1.1, by rw [s2, ← s1.2], s5, s6⟩
      obtain ⟨n1, r1, c1, r2, e1, e2, hnn, hr2, hn1, hc1⟩ := key
      have HSTQ : Hid (stp base bs = if n1 + cnt c1 ≤ base.length then some ((base.drop n1).take (cnt c1), bs.drop u) else none) := by
        show _ = _
        rw [HSTP.out, e1]
        simp only
        rw [e2]
        simp only
        rw [hr2]
      have hfrom : bits .and .u64 (n : Int) 4294967295 = (n1 : Int) := by rw [low32 n (by omega)]; omega
      have hlen : (n : Int) / 4294967296 = (c1 : Int) := by omega
      clear e1 e2 hnn hn HP HSTP HTWO HR
      by_cases hc0 : c1 = 0
      · subst hc0
        have hcn : cnt 0 = 65536 := rfl
        by_cases hin : n1 + 65536 ≤ L0
        · have hinZ : ¬ (L0 : Int) < (n1 : Int) + 65536 := by omega
          have HST : Hid (stp base bs = some ((base.drop n1).take 65536, bs.drop u)) := by show _ = _; rw [HSTQ.out, hcn, if_pos (by rw [← HL0.out]; exact hin)]
          obtain ⟨b0, off0, rfl, hb0, hat0⟩ := H0.out.at_ (by rw [← HL0.out]; omega)
          have hcap0 : L0 ≤ cap0 := by rw [HL0.out]; exact H0.out.capl
          obtain ⟨ad, HAD⟩ : ∃ ad, Hid ((if cap0 = n1 then some (⟨b0, off0, none⟩ : Addr) else some ⟨b0, off0 + n1, none⟩) = ad) := ⟨_, rfl⟩
          have had := HAD.out
          have hcl : ((base.drop n1).take 65536).length = 65536 := by rw [List.length_take, List.length_drop, ← HL0.out]; omega
          have HSL : Hid (Sl wr ad (cap0 - n1) ((base.drop n1).take 65536)) := ⟨by rw [hcl]; omega, fun _ => ⟨b0, off0 + n1, by rw [← HAD.out, if_neg (by omega)], hb0, at_sub hat0 n1 65536 (by rw [← HL0.out]; exact hin)⟩, fun h => by rw [← HAD.out, if_neg (by omega)] at h; cases h⟩
          go_wp2_with fail
          go_ret2
          refine ⟨rfl, ?_⟩
          rw [HST.out]
          exact ⟨0, cap0 - n1, u, ad, by rw [hcl]; first | rfl | (push_cast; rfl), rfl, hu1, by rw [← HL.out]; exact huL, HSL.out, fun p hp => .inr ⟨_, rfl, by rw [← HAD.out, if_neg (by omega)] at hp; cases hp; rfl, by omega⟩⟩
        · have hinZ : (L0 : Int) < (n1 : Int) + 65536 := by omega
          have HST : Hid (stp base bs = none) := by show _ = _; rw [HSTQ.out, hcn, if_neg (by rw [← HL0.out]; exact hin)]
          go_wp2_with fail
          go_ret2
          exact ⟨rfl, by rw [HST.out]; rfl⟩
      · have hc0Z : ¬ (c1 : Int) = 0 := by omega
        have hcn : cnt c1 = c1 := by unfold cnt; rw [if_neg hc0]
        by_cases hin : n1 + c1 ≤ L0
        · have hinZ : ¬ (L0 : Int) < (n1 : Int) + c1 := by omega
          have HST : Hid (stp base bs = some ((base.drop n1).take c1, bs.drop u)) := by show _ = _; rw [HSTQ.out, hcn, if_pos (by rw [← HL0.out]; exact hin)]
          obtain ⟨b0, off0, rfl, hb0, hat0⟩ := H0.out.at_ (by rw [← HL0.out]; omega)
          have hcap0 : L0 ≤ cap0 := by rw [HL0.out]; exact H0.out.capl
          obtain ⟨ad, HAD⟩ : ∃ ad, Hid ((if cap0 = n1 then some (⟨b0, off0, none⟩ : Addr) else some ⟨b0, off0 + n1, none⟩) = ad) := ⟨_, rfl⟩
          have had := HAD.out
          have hcl : ((base.drop n1).take c1).length = c1 := by rw [List.length_take, List.length_drop, ← HL0.out]; omega
          have HSL : Hid (Sl wr ad (cap0 - n1) ((base.drop n1).take c1)) := ⟨by rw [hcl]; omega, fun _ => ⟨b0, off0 + n1, by rw [← HAD.out, if_neg (by omega)], hb0, at_sub hat0 n1 c1 (by rw [← HL0.out]; exact hin)⟩, fun h => by rw [← HAD.out, if_neg (by omega)] at h; cases h⟩
          go_wp2_with fail
          go_ret2
          refine ⟨rfl, ?_⟩
          rw [HST.out]
          exact ⟨0, cap0 - n1, u, ad, by rw [hcl]; first | rfl | (push_cast; rfl), rfl, hu1, by rw [← HL.out]; exact huL, HSL.out, fun p hp => .inr ⟨_, rfl, by rw [← HAD.out, if_neg (by omega)] at hp; cases hp; rfl, by omega⟩⟩
        · have hinZ : (L0 : Int) < (n1 : Int) + c1 := by omega
          have HST : Hid (stp base bs = none) := by show _ = _; rw [HSTQ.out, hcn, if_neg (by rw [← HL0.out]; exact hin)]
          go_wp2_with fail
          go_ret2
          exact ⟨rfl, by rw [HST.out]; rfl⟩
end Go.Proofs.YtblegkefeiefjaaDoor
