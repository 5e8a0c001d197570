/- The program's 'readSize'. -/
import Derived.Test.YtblegkefeiefjaaDoorPlain
import Derived.Test.YtblegkefeiefjaaDoorHelpC
import Derived.BigQuiet
import Derived.StillTactics
import Derived.StillTail
import Derived.Deep.LoopGhost
import Derived.Deep.RegionHeld3
import Derived.Deep.AppendLies
import Derived.Deep.DrawnRows
import Derived.Deep.OwnRows
import Derived.Maps.AppendAt
namespace Go.Proofs.YtblegkefeiefjaaDoor
open Go.RowKit Plain
set_option linter.unusedVariables false
set_option linter.unusedSimpArgs false

/-- A slice of bytes. -/
structure Sl (w : World) (a : Option Addr) (cap : Nat) (l : List Int) : Prop where
  capl : l.length ≤ cap
  at_ : 0 < l.length → ∃ b off, a = some ⟨b, off, none⟩ ∧ b < w.heap.size ∧ At w b off l
  nil : a = none → cap = 0
theorem at_drop {w : World} {b off : Nat} {l : List Int} (h : At w b off l) (j : Nat) (hj : j ≤ l.length) : At w b (off + j) (l.drop j) := fun i hi => by
  have hl : j + i < l.length := by simp at hi; omega
  have := h (j + i) hl
  rw [Nat.add_assoc, this]
  simp [List.getD_eq_getElem?_getD]
theorem i64_or_nat (a b : Nat) (ha : a < 9223372036854775808) (hb : b < 9223372036854775808) : bits .or .i64 (a : Int) (b : Int) = ((a ||| b : Nat) : Int) := by
  have hx : a ||| b < 2 ^ 63 := Nat.or_lt_two_pow (by omega) (by omega)
  show IntKind.i64.wrap ((BitVec.ofInt 64 (a : Int) ||| BitVec.ofInt 64 (b : Int)).toNat : Int) = _
  rw [BitVec.toNat_or, ofInt_u64 a (by omega), ofInt_u64 b (by omega), IntKind.wrap_i64]; omega
theorem wrap64_eq (n : Int) : wrap64 n = IntKind.i64.wrap n := by rw [IntKind.wrap_i64]; unfold wrap64; omega
theorem results_3 {fn : Func} {p q r : Tmp} (h : fn.results = #[.tmp p, .tmp q, .tmp r]) (tmps : Array Value) (w : World) (x y z : Value) (hp : tmps.getD p undef = x) (hq : tmps.getD q undef = y) (hr : tmps.getD r undef = z) :
    (results fn tmps).run Tryd.prog w = .ok (.tuple #[x, y, z]) w := by
  have hp' : tmps[p]?.getD undef = x := by simpa using hp
  have hq' : tmps[q]?.getD undef = y := by simpa using hq
  have hr' : tmps[r]?.getD undef = z := by simpa using hr
  simp [results, h, hp', hq', hr']
theorem Tryd.results23 : Tryd.f23.results = #[.tmp 2, .tmp 3, .tmp 4] := by kernel_rfl
theorem andNot128 : ∀ x, x < 256 → bits .andNot .u8 ((x : Nat) : Int) 128 = ((x % 128 : Nat) : Int) := by decide +kernel
theorem pow35 {j : Nat} (h : j ≤ 5) : 2 ^ (7 * j) ≤ 34359738368 := Nat.pow_le_pow_right (n := 2) (j := 35) (by omega) (by omega)
/-- What a size's reading leaves. -/
def PostZ (w : World) (r : Option (Nat × List Int)) (ev : Ending) (w' : World) : Prop :=
  match r with
  | none => ev = .returned (.tuple #[.int .i64 0, .slice none 0 0, .iface 35 (.int .i64 30)]) ∧ ∃ q, w' = w.drewN q
  | some (n, l) => ∃ a cap q, ev = .returned (.tuple #[.int .i64 n, .slice a l.length cap, .nilIface]) ∧ w' = w.drewN q ∧ Sl w' a cap l ∧ n < 34359738368

set_option maxRecDepth 20000 in
set_option maxHeartbeats 2000000 in
theorem readSize_some (b off cap : Nat) (bs : List Int) (w : World) (hz : IsB bs) (hl : bs.length ≤ 400000) (h0 : 0 < bs.length) (hat : At w b off bs) (hb : b < w.heap.size) (hcap : bs.length ≤ cap) :
    Calls Tryd.prog 23 #[.slice (some ⟨b, off, none⟩) bs.length cap] w (PostZ w (sz bs)) := by
  obtain ⟨R, HR⟩ : ∃ R, Hid (sz bs = R) := ⟨_, rfl⟩
  rw [HR.out]
  obtain ⟨L, HL⟩ : ∃ L, Hid (L = bs.length) := ⟨_, rfl⟩
  rw [← HL.out] at hl h0 hcap ⊢
  obtain ⟨m, HM⟩ : ∃ m, Hid (m = min L 5) := ⟨_, rfl⟩
  have hmin : (if (5 : Int) < (L : Int) then (5 : Int) else (L : Int)) = (m : Int) := by rw [HM.out]; split <;> omega
  have hm5 : m ≤ 5 := by rw [HM.out]; omega
  have hmL : m ≤ L := by rw [HM.out]; omega
  have HAT : Hid _ := hat
  have HZ : Hid _ := hz
  clear hat hz
  go_enter Tryd.func23, Tryd.ntmps23
  go_wp2_with fail
  go_loopg [2, 13] m (fun k n i wr => ∃ j a : Nat, j ≤ m ∧ i = .int .i64 j ∧ n = .int .i64 a ∧ k = m - j ∧ wr = w ∧ a < 2 ^ (7 * j) ∧ Hid (szGo (5 - j) j a (bs.drop j) = R))
  case atStart => exact ⟨0, 0, by omega, rfl, rfl, rfl, rfl, by simp, HR.out⟩
  case round =>
    obtain ⟨j, a, hj, rfl, rfl, hk, rfl, ha, HS⟩ := hrel
    by_cases hjm : j < m
    · have hjZ : (j : Int) < m := by omega
      have hjb : j < bs.length := by have := HL.out; omega
      have hxb := HZ.out _ (List.getElem_mem hjb)
      obtain ⟨x, HX⟩ : ∃ x : Nat, Hid (bs[j] = (x : Int)) := ⟨bs[j].toNat, by show _ = _; omega⟩
      have hx : x < 256 := by have := HX.out; omega
      have cx := HAT.out j hjb
      have hgx : bs.getD j 0 = (x : Int) := by rw [List.getD_eq_getElem?_getD, List.getElem?_eq_getElem hjb, ← HX.out]; rfl
      rw [hgx] at cx
      have hdrop : bs.drop j = (x : Int) :: bs.drop (j + 1) := by rw [List.drop_eq_getElem_cons hjb, HX.out]
      have hp := pow35 (show j ≤ 5 by omega)
      have hpx : x % 128 * 2 ^ (7 * j) ≤ 127 * 34359738368 := Nat.mul_le_mul (by omega) hp
      obtain ⟨sh, HSH⟩ : ∃ sh, Hid (sh = 7 * j) := ⟨_, rfl⟩
      have hsh : (7 : Int) * (j : Int) = (sh : Int) := by rw [HSH.out]; push_cast; rfl
      obtain ⟨y, HY⟩ : ∃ y, Hid (y = x % 128) := ⟨_, rfl⟩
      have hyw : wrap64 (y : Int) = (y : Int) := by rw [wrap64_eq, IntKind.wrap_i64]; have := HY.out; omega
      have han : bits .andNot .u8 (x : Int) 128 = (y : Int) := by rw [HY.out]; exact andNot128 x hx
      obtain ⟨v, HV⟩ : ∃ v, Hid (v = a + x % 128 * 2 ^ (7 * j)) := ⟨_, rfl⟩
      have hv : v < 2 ^ (7 * (j + 1)) := by
        rw [HV.out, show 7 * (j + 1) = 7 * j + 7 by omega, Nat.pow_add]
        have : x % 128 * 2 ^ (7 * j) + 2 ^ (7 * j) ≤ 128 * 2 ^ (7 * j) := by
          have h : (x % 128 + 1) * 2 ^ (7 * j) ≤ 128 * 2 ^ (7 * j) := Nat.mul_le_mul (by omega) (Nat.le_refl _)
          rw [Nat.add_mul, Nat.one_mul] at h; exact h
        rw [Nat.mul_comm (2 ^ (7 * j))]
        omega
      have hor : bits .or .i64 (a : Int) (wrap64 ((y : Int) * 2 ^ sh)) = (v : Int) := by
        have e : (y : Int) * 2 ^ sh = ((x % 128 * 2 ^ (7 * j) : Nat) : Int) := by rw [HY.out, HSH.out]; push_cast; rfl
        rw [e, wrap64_eq, IntKind.wrap_i64]
        have e2 : (((x % 128 * 2 ^ (7 * j) : Nat) : Int) + 9223372036854775808) % 18446744073709551616 - 9223372036854775808 = ((x % 128 * 2 ^ (7 * j) : Nat) : Int) := by omega
        first
          | rw [e2, i64_or_nat _ _ (by omega) (by omega), Nat.or_comm, nat_join (7 * j) _ _ (Nat.mul_mod_left _ _) ha, HV.out, Nat.add_comm]
          | (rw [show ∀ z : Int, z = ((x % 128 * 2 ^ (7 * j) : Nat) : Int) → z = ((x % 128 * 2 ^ (7 * j) : Nat) : Int) from fun _ h => h]; omega)
      rw [show 5 - j = (4 - j) + 1 by omega, hdrop, szGo] at HS
      rw [show ((x : Int) % 128).toNat = x % 128 by omega, ← HV.out] at HS
      clear hdrop hgx hxb hp hpx
      by_cases hx8 : x < 128
      · have hx8Z : (x : Int) < 128 := by omega
        rw [if_pos hx8Z] at HS
        by_cases hx0 : x = 0 ∧ 0 < j
        · obtain ⟨rfl, hj0⟩ := hx0
          have hj0Z : (0 : Int) < j := by omega
          rw [if_neg (by omega)] at HS
          go_wp2_with fail
          exact bodyPost_ret (results_3 Tryd.results23 _ _ _ _ _ rfl rfl rfl) rfl (by rw [← HS.out]; exact ⟨rfl, 0, rfl⟩)
        · rw [if_pos (by omega)] at HS
          obtain ⟨ad, HAD⟩ : ∃ ad, Hid ((if cap = j + 1 then some (⟨b, off, none⟩ : Addr) else some ⟨b, off + (j + 1), none⟩) = ad) := ⟨_, rfl⟩
          have had := HAD.out
          have HSL : Hid (∀ q, Sl (wr.drewN q) ad (cap - (j + 1)) (bs.drop (j + 1))) := fun q =>
            ⟨by rw [List.length_drop, ← HL.out]; omega, fun h => by
              rw [List.length_drop, ← HL.out] at h
              rw [← HAD.out, if_neg (by omega)]
              exact ⟨b, off + (j + 1), rfl, hb, at_drop HAT.out (j + 1) (by rw [← HL.out]; omega)⟩, fun h => by rw [← HAD.out] at h; split at h <;> cases h⟩
          have hlen : (bs.drop (j + 1)).length = L - (j + 1) := by rw [List.length_drop, ← HL.out]
          have hv5 : v < 34359738368 := Nat.lt_of_lt_of_le hv (pow35 (by omega))
          by_cases hx00 : x = 0
          · obtain rfl : j = 0 := by omega
            subst hx00
            obtain rfl : a = 0 := by simpa using ha
            obtain rfl : y = 0 := by rw [HY.out]
            obtain rfl : sh = 0 := by rw [HSH.out]
            obtain rfl : v = 0 := by rw [HV.out]
            have cx0 : wr.cell? ⟨b, off, none⟩ = some (.int .u8 0) := by simpa using cx
            clear cx
            rw [Nat.zero_add] at had
            have han0 : bits .andNot .u8 0 128 = 0 := by decide +kernel
            have hor0 : bits .or .i64 0 0 = 0 := by decide +kernel
            clear han hor hyw hsh
            go_wp2_with fail
            go_quiet (fail)
            go_wp2
            exact bodyPost_ret (results_3 Tryd.results23 _ _ _ _ _ rfl rfl rfl) rfl (by rw [← HS.out]; exact ⟨_, _, nq, by rw [hlen]; rfl, rfl, HSL.out nq, hv5⟩)
          · have g1 : ¬ (x : Int) = 0 := by omega
            go_wp2_with fail
            go_quiet (fail)
            go_wp2
            exact bodyPost_ret (results_3 Tryd.results23 _ _ _ _ _ rfl rfl rfl) rfl (by rw [← HS.out]; exact ⟨_, _, nq, by rw [hlen]; rfl, rfl, HSL.out nq, hv5⟩)
      · have hx8Z : ¬ (x : Int) < 128 := by omega
        rw [if_neg hx8Z] at HS
        go_wp2_with fail
        go_roundg (m - (j + 1))
        case measure => omega
        case rel => exact ⟨j + 1, v, by omega, by go_num, by first | rfl | go_num, rfl, rfl, hv, by rw [show 5 - (j + 1) = 4 - j by omega]; exact HS.out⟩
    · obtain rfl : m = j := by omega
      have hjZ : ¬ (m : Int) < (m : Int) := by omega
      have HN : Hid (R = none) := by
        show _ = _
        rw [← HS.out]
        have hm := HM.out
        have hl := HL.out
        rcases Nat.lt_or_ge 5 L with h | h
        · rw [show 5 - m = 0 by omega, szGo]
        · rw [List.drop_of_length_le (by omega)]
          obtain ⟨k, hk5⟩ : ∃ k, 5 - m = k ∨ 5 - m = k + 1 := ⟨5 - m, .inl rfl⟩
          cases h5 : 5 - m with
          | zero => rfl
          | succ k => rfl
      go_wp2_with fail
      exact bodyPost_ret (results_3 Tryd.results23 _ _ _ _ _ rfl rfl rfl) rfl (by rw [HN.out]; exact ⟨rfl, 0, rfl⟩)
end Go.Proofs.YtblegkefeiefjaaDoor
