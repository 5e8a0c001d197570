/- The document's 'Decimal'; 'Same'. -/
import Derived.Test.YtjpihkheapjigaaDoorPaL
import Derived.Laws.IdiomStrings
import Derived.Deep.QuietTactic
import Derived.BigQuiet
namespace Go.Proofs.YtjpihkheapjigaaDoor
open Go.RowKit
set_option linter.unusedVariables false
set_option linter.unusedSimpArgs false
/-- What has been written, and what is left: together the digits. -/
def Dl (n m : Nat) (s : List UInt8) : Prop := if m = 0 then s = Lib.decDigits n else Lib.decDigits n = Lib.decDigits m ++ s
theorem Dl.next {n m : Nat} {s : List UInt8} (h : Dl n m s) (hm : 0 < m) : Dl n (m / 10) (UInt8.ofNat (48 + m % 10) :: s) := by
  unfold Dl at h ⊢
  rw [if_neg (by omega)] at h
  by_cases h10 : m < 10
  · rw [if_pos (by omega), h, Lib.decDigits, dif_pos h10, Nat.mod_eq_of_lt h10]
    rfl
  · rw [if_neg (by omega), h]
    conv => lhs; rw [Lib.decDigits, dif_neg h10]
    simp
set_option maxRecDepth 20000 in
theorem decimal_any (n : Nat) (hn : n ≤ 400000) (w : World) : Calls Tryd.prog 22 #[.int .i64 n] w fun e w' => e = .returned (.string ⟨(Lib.decDigits n).toArray⟩) ∧ Below w.heap.size w w' := by
  by_cases h0 : n = 0
  · subst h0
    go_enter Tryd.func22, Tryd.ntmps22
    go_wp2
    go_ret
    exact ⟨by rw [Lib.decDigits]; rfl, Below.refl _ _⟩
  · have h0i : ¬ ((n : Int) == 0) = true := by simp; omega
    go_enter Tryd.func22, Tryd.ntmps22
    go_wp2_with fail
    go_loopg [0, 3] n (fun g v u wr => ∃ (m : Nat) (s : List UInt8) (S : ByteArray), v = .int .i64 m ∧ u = .string S ∧ g = m ∧ m ≤ 400000 ∧ S.size ≤ 6 ∧ Hid (m * 10 ^ S.size ≤ n) ∧ Hid (S = ⟨s.toArray⟩) ∧ Hid (Dl n m s) ∧ Hid (Below w.heap.size w wr))
    case atStart => exact ⟨n, [], ⟨#[]⟩, rfl, rfl, rfl, hn, by decide, hid (by show n * 10 ^ 0 ≤ n; omega), rfl, hid (by unfold Dl; rw [if_neg h0]; simp), hid (Below.refl _ _)⟩
    case round =>
      obtain ⟨m, s, S, rfl, rfl, hk, hm4, hS, HM, HS, HD, HB⟩ := hrel
      by_cases hm : 0 < m
      · have hmi : (0 : Int) < m := by omega
        obtain ⟨x, HX⟩ : ∃ x : UInt8, Hid (x = UInt8.ofNat (48 + m % 10)) := ⟨_, rfl⟩
        have hx : (48 : Int) + (m : Int) % 10 = (x.toNat : Int) := by
          rw [HX.out, UInt8.toNat_ofNat']
          omega
        have hcv : ∀ W : World, W.cell? ⟨wr.heap.size, 0, none⟩ = some (.int .u8 (x.toNat : Int)) → Sem.run Tryd.prog (convert 22 9 (.slice (some ⟨wr.heap.size, 0, none⟩) 1 1)) W = .ok (.string ⟨#[x]⟩) W := fun W hW => by
          refine run_convert_bytes_back W 22 9 5 ⟨wr.heap.size, 0, none⟩ 1 [x] Tryd.underlying22 Tryd.underlying5 Tryd.underlying9 ?_
          intro j hj
          have : j = 0 := by simpa using hj
          subst this
          simpa [Addr.add] using hW
        have hcv1 := hcv (wr.alloc (.cells #[.int .u8 (x.toNat : Int)] 5)) (by simp)
        have hSs : ¬ 9223372036854775807 < 1 + S.size := by omega
        have h1 : (⟨#[x]⟩ : ByteArray).size = 1 := rfl
        go_wp2
        have hS5 : S.size ≤ 5 := by
          rcases Nat.lt_or_ge S.size 6 with h | h
          · omega
          · have e : S.size = 6 := by omega
            have := HM.out
            rw [e] at this
            omega
        have hsz : ((⟨#[x]⟩ : ByteArray) ++ S).size = S.size + 1 := by rw [ByteArray.size_append, h1]; omega
        go_roundg (m / 10)
        case measure => omega
        case rel =>
          refine ⟨m / 10, x :: s, ⟨#[x]⟩ ++ S, by go_num, rfl, rfl, by omega, by omega, hid ?_, hid ?_, hid ?_, hid (HB.out.alloc HB.out.size _)⟩
          · rw [hsz, Nat.pow_succ]
            have := HM.out
            have h2 : m / 10 * (10 ^ S.size * 10) = m / 10 * 10 * 10 ^ S.size := by rw [Nat.mul_assoc (m / 10), Nat.mul_comm 10]
            rw [h2]
            exact Nat.le_trans (Nat.mul_le_mul_right _ (by omega)) this
          · rw [HS.out, show (⟨#[x]⟩ : ByteArray) = ⟨[x].toArray⟩ from rfl]
            exact str_add _ _
          · rw [HX.out]
            exact HD.out.next hm
      · have hmi : ¬ (0 : Int) < m := by omega
        go_wp2
        go_ret
        refine ⟨?_, HB.out⟩
        have := HD.out
        unfold Dl at this
        rw [if_pos (by omega)] at this
        rw [← this, ← HS.out]; rfl
def At (w : World) (b off : Nat) (zs : List Int) : Prop := ∀ i, i < zs.length → w.cell? ⟨b, off + i, none⟩ = some (.int .u8 (zs.getD i 0))
set_option maxHeartbeats 400000 in
theorem same_true (b off cap b' off' cap' : Nat) (zs : List Int) (w : World) (hl : zs.length ≤ 1000000000000) (hc : At w b off zs) (hc' : At w b' off' zs) :
    Calls Tryd.prog 6 #[.slice (some ⟨b, off, none⟩) zs.length cap, .slice (some ⟨b', off', none⟩) zs.length cap'] w fun e w' => e = .returned (.bool true) ∧ ∃ n, w' = w.drewN n := by
  go_enter Tryd.func6, Tryd.ntmps6
  go_wp2
  go_loopw [5] (fun i wr => ∃ k n : Nat, k ≤ zs.length ∧ i = .int .i64 k ∧ wr = w.drewN n) (fun i _ => zs.length - (intOf i).toNat)
  case atStart => exact ⟨0, 0, Nat.zero_le _, rfl, rfl⟩
  case round =>
    obtain ⟨k, n, hk, rfl, rfl⟩ := hrel
    by_cases hlt : k < zs.length
    · have hcell := hc k hlt
      have hcell' := hc' k hlt
      go_wp2
      go_quiet (fail)
      go_wp2
      go_roundw
      case rel => exact ⟨k + 1, _, by omega, by go_num, rfl⟩
      case measure => simp [intOf]; omega
    · go_wp2
      go_ret
      exact ⟨rfl, n, rfl⟩
set_option maxHeartbeats 400000 in
theorem same_none (a a' : Option Addr) (cap cap' : Nat) (w : World) :
    Calls Tryd.prog 6 #[.slice a 0 cap, .slice a' 0 cap'] w fun e w' => e = .returned (.bool true) ∧ ∃ n, w' = w.drewN n := by
  go_enter Tryd.func6, Tryd.ntmps6
  go_wp2
  go_loop [5] (fun i => i = .int .i64 0) (fun _ => 0)
  case atStart => rfl
  case round =>
    obtain rfl := hrel
    go_wp2
    go_ret
    exact ⟨rfl, 0, rfl⟩
theorem same_any (a a' : Option Addr) (cap cap' : Nat) (zs : List Int) (w : World) (hl : zs.length ≤ 1000000000000) (hc : 0 < zs.length → ∃ b off, a = some ⟨b, off, none⟩ ∧ At w b off zs) (hc' : 0 < zs.length → ∃ b off, a' = some ⟨b, off, none⟩ ∧ At w b off zs) :
    Calls Tryd.prog 6 #[.slice a zs.length cap, .slice a' zs.length cap'] w fun e w' => e = .returned (.bool true) ∧ ∃ n, w' = w.drewN n := by
  by_cases h0 : zs.length = 0
  · rw [h0]; exact same_none a a' cap cap' w
  · obtain ⟨b, off, rfl, h⟩ := hc (by omega)
    obtain ⟨b', off', rfl, h'⟩ := hc' (by omega)
    exact same_true b off cap b' off' cap' zs w hl h h'
def nums (s : Str) : List Int := s.map (fun x => (x.toNat : Int))
theorem nums_len (s : Str) : (nums s).length = s.length := by simp [nums]
theorem nums_at (s : Str) (i : Nat) (hi : i < s.length) : (nums s).getD i 0 = ((s.getD i 0).toNat : Int) := by
  simp [nums, List.getD_eq_getElem?_getD, List.getElem?_eq_getElem hi]
theorem pb_at {w : World} {b off cap : Nat} {s : Str} (h : PB w (some ⟨b, off, none⟩) cap s) : At w b off (nums s) := fun i hi => by
  rw [nums_len] at hi
  rw [nums_at s i hi]
  exact PB.cell h i hi
theorem same_pb {w : World} (a : Option Addr) (ca : Nat) (b : Option Addr) (cb : Nat) (s : Str) (hA : PB w a ca s) (hB : PB w b cb s) (hl : s.length ≤ 1000000000000) : Calls Tryd.prog 6 #[.slice a s.length ca, .slice b s.length cb] w fun e w' => e = .returned (.bool true) ∧ ∃ n, w' = w.drewN n := by
  have := same_any a b ca cb (nums s) w (by rw [nums_len]; exact hl) (fun h0 => by
    rw [nums_len] at h0
    obtain ⟨b', off, e1, _⟩ := hA.at_ h0
    subst e1
    exact ⟨b', off, rfl, pb_at hA⟩) (fun h0 => by
    rw [nums_len] at h0
    obtain ⟨b', off, e1, _⟩ := hB.at_ h0
    subst e1
    exact ⟨b', off, rfl, pb_at hB⟩)
  rw [nums_len] at this
  exact this
end Go.Proofs.YtjpihkheapjigaaDoor
