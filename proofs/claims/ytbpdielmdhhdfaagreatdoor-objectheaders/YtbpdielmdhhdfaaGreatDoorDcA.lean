/- The document's side of chapter 3: 'Decimal'. -/
import Derived.Test.YtbpdielmdhhdfaaGreatDoorHdP
import Derived.Test.YtbpdielmdhhdfaaGreatDoorHelpC
import Derived.Laws.IdiomStrings
namespace Go.Proofs.YtbpdielmdhhdfaaGreatDoor
open Go.RowKit
set_option linter.unusedVariables false
set_option linter.unusedSimpArgs false
theorem str_add (x y : List UInt8) : (⟨x.toArray⟩ : ByteArray) ++ ⟨y.toArray⟩ = ⟨(x ++ y).toArray⟩ := by
  rw [ByteArray.mk_append_mk]
/-- What has been written, and what is left: together the digits. -/
def Dl (n m : Nat) (s : List UInt8) : Prop := if m = 0 then s = Lib.decDigits n else Lib.decDigits n = Lib.decDigits m ++ s
theorem Dl.next {n m : Nat} {s : List UInt8} (h : Dl n m s) (hm : 0 < m) : Dl n (m / 10) (UInt8.ofNat (48 + m % 10) :: s) := by
  unfold Dl at h ⊢
  rw [if_neg (by omega)] at h
  by_cases h10 : m < 10
  · rw [if_pos (by omega), h, Lib.decDigits, dif_pos h10, Nat.mod_eq_of_lt h10]
    rfl
  · rw [if_neg (by omega), h]
    conv => lhs; rw [Lib.decDigits, dif_neg h10]
    simp
set_option maxRecDepth 20000 in
theorem decimal_any (n : Nat) (hn : n ≤ 400000) (w : World) : Calls Tryz.prog 38 #[.int .i64 n] w fun e w' => e = .returned (.string ⟨(Lib.decDigits n).toArray⟩) ∧ Below w.heap.size w w' := by
  by_cases h0 : n = 0
  · subst h0
    go_enter Tryz.func38, Tryz.ntmps38
    go_wp2
    go_ret
    exact ⟨by rw [Lib.decDigits]; rfl, Below.refl _ _⟩
  · have h0i : ¬ ((n : Int) == 0) = true := by simp; omega
    go_enter Tryz.func38, Tryz.ntmps38
    go_wp2_with fail
    go_loopg [0, 3] n (fun g v u wr => ∃ (m : Nat) (s : List UInt8) (S : ByteArray), v = .int .i64 m ∧ u = .string S ∧ g = m ∧ m ≤ 400000 ∧ S.size ≤ 6 ∧ Hid (m * 10 ^ S.size ≤ n) ∧ Hid (S = ⟨s.toArray⟩) ∧ Hid (Dl n m s) ∧ Hid (Below w.heap.size w wr))
    case atStart => exact ⟨n, [], ⟨#[]⟩, rfl, rfl, rfl, hn, by decide, hid (by show n * 10 ^ 0 ≤ n; omega), rfl, hid (by unfold Dl; rw [if_neg h0]; simp), hid (Below.refl _ _)⟩
    case round =>
      obtain ⟨m, s, S, rfl, rfl, hk, hm4, hS, HM, HS, HD, HB⟩ := hrel
      by_cases hm : 0 < m
      · have hmi : (0 : Int) < m := by omega
        obtain ⟨x, HX⟩ : ∃ x : UInt8, Hid (x = UInt8.ofNat (48 + m % 10)) := ⟨_, rfl⟩
        have hx : (48 : Int) + (m : Int) % 10 = (x.toNat : Int) := by
          rw [HX.out, UInt8.toNat_ofNat']
          omega
        have hcv : ∀ W : World, W.cell? ⟨wr.heap.size, 0, none⟩ = some (.int .u8 (x.toNat : Int)) → Sem.run Tryz.prog (convert 23 9 (.slice (some ⟨wr.heap.size, 0, none⟩) 1 1)) W = .ok (.string ⟨#[x]⟩) W := fun W hW => by
          refine run_convert_bytes_back W 23 9 5 ⟨wr.heap.size, 0, none⟩ 1 [x] Tryz.underlying23 Tryz.underlying5 Tryz.underlying9 ?_
          intro j hj
          have : j = 0 := by simpa using hj
          subst this
          simpa [Addr.add] using hW
        have hcv1 := hcv (wr.alloc (.cells #[.int .u8 (x.toNat : Int)] 5)) (by simp)
        have hSs : ¬ 9223372036854775807 < 1 + S.size := by omega
        have h1 : (⟨#[x]⟩ : ByteArray).size = 1 := rfl
        go_wp2
        have hS5 : S.size ≤ 5 := by
          rcases Nat.lt_or_ge S.size 6 with h | h
          · omega
          · have e : S.size = 6 := by omega
            have := HM.out
            rw [e] at this
            omega
        have hsz : ((⟨#[x]⟩ : ByteArray) ++ S).size = S.size + 1 := by rw [ByteArray.size_append, h1]; omega
        go_roundg (m / 10)
        case measure => omega
        case rel =>
          refine ⟨m / 10, x :: s, ⟨#[x]⟩ ++ S, by go_num, rfl, rfl, by omega, by omega, hid ?_, hid ?_, hid ?_, hid (HB.out.alloc HB.out.size _)⟩
          · rw [hsz, Nat.pow_succ]
            have := HM.out
            have h2 : m / 10 * (10 ^ S.size * 10) = m / 10 * 10 * 10 ^ S.size := by rw [Nat.mul_assoc (m / 10), Nat.mul_comm 10]
            rw [h2]
            exact Nat.le_trans (Nat.mul_le_mul_right _ (by omega)) this
          · rw [HS.out, show (⟨#[x]⟩ : ByteArray) = ⟨[x].toArray⟩ from rfl]
            exact str_add _ _
          · rw [HX.out]
            exact HD.out.next hm
      · have hmi : ¬ (0 : Int) < m := by omega
        go_wp2
        go_ret
        refine ⟨?_, HB.out⟩
        have := HD.out
        unfold Dl at this
        rw [if_pos (by omega)] at this
        rw [← this, ← HS.out]; rfl
end Go.Proofs.YtbpdielmdhhdfaaGreatDoor
