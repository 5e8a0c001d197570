/- THE WALKS OF 'deflate.CRC' AND 'gitlikeref1.CRC', and of the sums of no bytes. -/
import Derived.Test.YtbiibhpknflagaaDoorSumA
namespace Go.Proofs.YtbiibhpknflagaaDoor
open Go.RowKit Plain

set_option maxHeartbeats 400000 in
theorem adler_ref0 (a : Option Addr) (cap : Nat) (w : World) :
    Calls Tryd.prog 11 #[.slice a 0 cap] w fun e w' => e = .returned (.int .u32 (adler [])) ∧ w' = w := by
  go_enter Tryd.func11, Tryd.ntmps11
  go_wp2
  go_loop [3, 4, 5] (fun s t i => i = .int .i64 0 ∧ s = .int .u32 1 ∧ t = .int .u32 0) (fun _ _ _ => 0)
  case atStart => exact ⟨rfl, rfl, rfl⟩
  case round =>
    obtain ⟨rfl, rfl, rfl⟩ := hrel
    go_wp2
    go_ret
    exact ⟨ret_int rfl, rfl⟩

set_option maxHeartbeats 400000 in
theorem crc_ref0 (a : Option Addr) (cap : Nat) (w : World) :
    Calls Tryd.prog 12 #[.slice a 0 cap] w fun e w' => e = .returned (.int .u32 0) ∧ w' = w := by
  go_enter Tryd.func12, Tryd.ntmps12
  go_wp2
  go_loop [3, 4] (fun s i => i = .int .i64 0 ∧ s = .int .u32 4294967295) (fun _ _ => 0)
  case atStart => exact ⟨rfl, rfl⟩
  case round =>
    obtain ⟨rfl, rfl⟩ := hrel
    go_wp2
    go_ret
    exact ⟨ret_int (by decide), rfl⟩

theorem crc_one (n : Nat) (x : Int) (hn : n < 4294967296) (h1 : 0 ≤ x) (h2 : x ≤ 255) : ∃ m : Nat, m < 4294967296 ∧ bits .xor .u32 (n : Int) x = (m : Int) ∧ Hid (m = n ^^^ x.toNat) :=
  ⟨n ^^^ x.toNat, Nat.xor_lt_two_pow (n := 32) hn (by omega), by rw [u32_xor _ _ (by omega) (by omega) h1 (by omega)]; rfl, rfl⟩
theorem crc_four (m : Nat) (w : World) (hm : m < 4294967296) (ht : ∀ i, i < 16 → w.cell? ⟨0, i, none⟩ = some (.int .u32 ((tab.getD i 0 : Nat) : Int))) :
    ∃ v n : Nat, bits .and .u32 (m : Int) 15 = ((m % 16 : Nat) : Int) ∧ w.cell? ⟨0, m % 16, none⟩ = some (.int .u32 (v : Int)) ∧ bits .xor .u32 ((m : Int) / 16) (v : Int) = (n : Int) ∧ n < 4294967296 ∧ Hid (n = crcFour m) := by
  have hv : tab.getD (m % 16) 0 < 4294967296 := by
    have : ∀ i, i < 16 → tab.getD i 0 < 4294967296 := by decide
    exact this _ (by omega)
  refine ⟨tab.getD (m % 16) 0, crcFour m, ?_, ht _ (by omega), ?_, ?_, rfl⟩
  · rw [u32_and _ _ (by omega) (by omega) (by omega) (by omega)]
    exact congrArg _ (nat_mask4 m)
  · rw [u32_xor _ _ (by omega) (by omega) (by omega) (by omega)]
    rw [show ((m : Int) / 16).toNat = m / 16 from by omega, Int.toNat_natCast]; rfl
  · exact Nat.xor_lt_two_pow (n := 32) (by omega) hv

set_option maxHeartbeats 400000 in
theorem crc_prog (b off cap : Nat) (zs : List Int) (w : World) (hl : zs.length ≤ 300000) (hz : IsB zs) (hc : At w b off zs)
    (ht : ∀ i, i < 16 → w.cell? ⟨0, i, none⟩ = some (.int .u32 ((tab.getD i 0 : Nat) : Int))) :
    Calls Tryd.prog 9 #[.slice (some ⟨b, off, none⟩) zs.length cap] w fun e w' => e = .returned (.int .u32 ((crc zs ^^^ 4294967295 : Nat) : Int)) ∧ w' = w := by
  go_enter Tryd.func9, Tryd.ntmps9
  go_wp2
  go_loop [3, 8] (fun s i => ∃ k n : Nat, k ≤ zs.length ∧ i = .int .i64 k ∧ s = .int .u32 n ∧ n < 4294967296 ∧ Hid (n = crc (zs.take k))) (fun _ i => zs.length - (intOf i).toNat)
  case atStart => exact ⟨0, 4294967295, Nat.zero_le _, rfl, rfl, by omega, rfl⟩
  case round =>
    obtain ⟨k, n, hk, rfl, rfl, hn, HN⟩ := hrel
    by_cases hlt : k < zs.length
    · have hcell := hc k hlt
      obtain ⟨hx1, hx2⟩ := hz.at k hlt
      obtain ⟨m, hm, hmx, HM⟩ := crc_one n zs[k] hn hx1 hx2
      obtain ⟨v1, n1, ha1, hv1, hb1, hn1, H1⟩ := crc_four m w hm ht
      obtain ⟨v2, n2, ha2, hv2, hb2, hn2, H2⟩ := crc_four n1 w hn1 ht
      have HE : Hid (n2 = crc (zs.take (k + 1))) := by
        show n2 = _
        rw [take_snoc zs k hlt, crc_snoc, ← HN.out, ← HM.out, crcByte_eq, ← H1.out, ← H2.out]
      clear ht
      go_wp2
      go_round
      case rel => exact ⟨k + 1, n2, by omega, by go_num, rfl, hn2, HE⟩
      case measure => simp [intOf]; omega
    · have hsg : IntKind.u32.signed = false := rfl
      have hmx : IntKind.u32.max = 4294967295 := rfl
      go_wp2
      go_ret
      refine ⟨ret_int ?_, rfl⟩
      obtain rfl : k = zs.length := by omega
      have e : n = crc zs := by rw [HN.out, List.take_length]
      rw [u32_xor _ _ (by omega) (by omega) (by omega) (by omega), e, Nat.xor_comm]; rfl

theorem crc_odd (n : Nat) (hn : n < 4294967296) (ho : n % 2 = 1) : ∃ m : Nat, m < 4294967296 ∧ bits .xor .u32 ((n : Int) / 2) 3988292384 = (m : Int) ∧ Hid (m = crcBit n) :=
  ⟨n / 2 ^^^ 3988292384, Nat.xor_lt_two_pow (n := 32) (by omega) (by omega), by
    rw [u32_xor _ _ (by omega) (by omega) (by omega) (by omega), show ((n : Int) / 2).toNat = n / 2 from by omega]; rfl, by
    show _ = _; unfold crcBit; rw [if_pos ho]⟩

set_option maxHeartbeats 400000 in
theorem crc_ref (b off cap : Nat) (zs : List Int) (w : World) (hl : zs.length ≤ 300000) (hz : IsB zs) (hc : At w b off zs) :
    Calls Tryd.prog 12 #[.slice (some ⟨b, off, none⟩) zs.length cap] w fun e w' => e = .returned (.int .u32 ((crc zs ^^^ 4294967295 : Nat) : Int)) ∧ w' = w := by
  go_enter Tryd.func12, Tryd.ntmps12
  go_wp2
  go_loop [3, 4] (fun s i => ∃ k n : Nat, k ≤ zs.length ∧ i = .int .i64 k ∧ s = .int .u32 n ∧ n < 4294967296 ∧ Hid (n = crc (zs.take k))) (fun _ i => zs.length - (intOf i).toNat)
  case atStart => exact ⟨0, 4294967295, Nat.zero_le _, rfl, rfl, by omega, rfl⟩
  case round =>
    obtain ⟨k, n, hk, rfl, rfl, hn, HN⟩ := hrel
    by_cases hlt : k < zs.length
    · have hcell := hc k hlt
      obtain ⟨hx1, hx2⟩ := hz.at k hlt
      obtain ⟨m, hm, hmx, HM⟩ := crc_one n zs[k] hn hx1 hx2
      have HE : Hid (Nat.repeat crcBit 8 m = crc (zs.take (k + 1))) := by
        show _ = _
        rw [take_snoc zs k hlt, crc_snoc, ← HN.out, ← HM.out]; rfl
      go_wp2
      go_loop [3, 5] (fun s i => ∃ j n : Nat, j ≤ 8 ∧ i = .int .i64 j ∧ s = .int .u32 n ∧ n < 4294967296 ∧ Hid (n = Nat.repeat crcBit j m)) (fun _ i => 8 - (intOf i).toNat)
      case atStart => exact ⟨0, m, by omega, rfl, rfl, hm, rfl⟩
      case round =>
        obtain ⟨j, q, hj, rfl, rfl, hq, HQ⟩ := hrel
        by_cases hj8 : j < 8
        · by_cases ho : q % 2 = 1
          · obtain ⟨q', hq', hqx, HQ'⟩ := crc_odd q hq ho
            have HR : Hid (q' = Nat.repeat crcBit (j + 1) m) := by show _ = crcBit _; rw [← HQ.out]; exact HQ'.out
            go_wp2
            go_round
            case rel => exact ⟨j + 1, q', by omega, by go_num, rfl, hq', HR⟩
            case measure => simp [intOf]; omega
          · have HR : Hid (q / 2 = Nat.repeat crcBit (j + 1) m) := by show _ = crcBit _; rw [← HQ.out]; unfold crcBit; rw [if_neg ho]
            go_wp2
            go_round
            case rel => exact ⟨j + 1, q / 2, by omega, by go_num, by go_num, by omega, HR⟩
            case measure => simp [intOf]; omega
        · go_wp2
          go_round
          case rel =>
            obtain rfl : j = 8 := by omega
            exact ⟨k + 1, q, by omega, by go_num, rfl, hq, by show _ = _; rw [HQ.out]; exact HE.out⟩
          case measure => simp [intOf]; omega
    · go_wp2
      go_ret
      refine ⟨ret_int ?_, rfl⟩
      obtain rfl : k = zs.length := by omega
      have e : n = crc zs := by rw [HN.out, List.take_length]
      rw [u32_xor _ _ (by omega) (by omega) (by omega) (by omega), e]; rfl
end Go.Proofs.YtbiibhpknflagaaDoor
