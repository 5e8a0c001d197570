/- Package object: 'kindOf'. -/
import Derived.Test.YtbpdielmdhhdfaaGreatDoorKindA
namespace Go.Proofs.YtbpdielmdhhdfaaGreatDoor
open Go.RowKit
set_option linter.unusedVariables false
set_option linter.unusedSimpArgs false
/-- 3.1: the kind of a name; none: 0. -/
def kO (s : ByteArray) (k : Nat) : Prop := (1 ≤ k ∧ k ≤ 4 ∧ ((kN k).toList == s.toList) = true) ∨ (k = 0 ∧ ∀ i : Nat, 1 ≤ i → i ≤ 4 → ((kN i).toList == s.toList) = false)
set_option maxRecDepth 20000 in
theorem kindOf_any (s : ByteArray) (w : World) : Calls Tryz.prog 83 #[.string s] w fun e w' => (∃ k : Nat, e = .returned (.int .i64 k) ∧ kO s k) ∧ w' = w := by
  go_enter Tryz.func83, Tryz.ntmps83
  go_wp2_with fail
  go_loopg [3] 4 (fun g v wr => ∃ j : Nat, 1 ≤ j ∧ j ≤ 5 ∧ v = .int .i64 j ∧ g = 5 - j ∧ wr = w ∧ Hid (∀ i : Nat, 1 ≤ i → i < j → ((kN i).toList == s.toList) = false))
  case atStart => exact ⟨1, by omega, by omega, rfl, rfl, rfl, fun i h1 h2 => by omega⟩
  case round =>
    obtain ⟨j, h1, h5, rfl, hk, rfl, HN⟩ := hrel
    by_cases h4 : j ≤ 4
    · have h4I : (j : Int) ≤ 4 := by omega
      cases he : ((kN j).toList == s.toList) with
      | true =>
        go_wp2_with (go_at_call 65; refine (kindName_any _ _).mono ?_; rintro ev w1 ⟨rfl, rfl⟩)
        go_ret
        exact ⟨⟨j, rfl, .inl ⟨h1, h4, he⟩⟩, rfl⟩
      | false =>
        go_wp2_with (go_at_call 65; refine (kindName_any _ _).mono ?_; rintro ev w1 ⟨rfl, rfl⟩)
        go_roundg (5 - (j + 1))
        case measure => omega
        case rel => exact ⟨j + 1, by omega, by omega, by go_num, rfl, rfl, fun i g1 g2 => by
          by_cases hij : i = j
          · subst hij; exact he
          · exact HN.out i g1 (by omega)⟩
    · have h4I : ¬ (j : Int) ≤ 4 := by omega
      go_wp2
      go_ret
      exact ⟨⟨0, rfl, .inr ⟨rfl, fun i g1 g2 => HN.out i g1 (by omega)⟩⟩, rfl⟩
end Go.Proofs.YtbpdielmdhhdfaaGreatDoor
