/- The law 'DeltaRound': its walk. -/
import Derived.Test.YtblegkefeiefjaaDoorDrA
namespace Go.Proofs.YtblegkefeiefjaaDoor
open Go.RowKit Plain
set_option linter.unusedVariables false
set_option linter.unusedSimpArgs false
set_option maxRecDepth 20000 in
set_option maxHeartbeats 400000 in
theorem walkR_far (a a' : Option Addr) (len len' cap cap' : Nat) (w : World) (h : 300000 < len + len') (hm : len ≤ 200000000000000) (hm' : len' ≤ 200000000000000) :
    Calls Tryd.prog 4 #[.slice a len cap, .slice a' len' cap'] w fun e w' => e = .returned (.bool true) ∧ Below w.heap.size w w' := by
  have h3 : (300000 : Int) < len + len' := by omega
  by_cases h1 : 100000 < len
  · have h1' : (100000 : Int) < len := by omega
    go_enter Tryd.func4, Tryd.ntmps4
    go_wp2
    go_ret
    exact ⟨rfl, Below.refl _ _⟩
  · have h1' : ¬ (100000 : Int) < len := by omega
    have h2' : (100000 : Int) < len' := by omega
    go_enter Tryd.func4, Tryd.ntmps4
    go_wp2
    go_ret
    exact ⟨rfl, Below.refl _ _⟩
set_option maxRecDepth 20000 in
set_option maxHeartbeats 400000 in
theorem walkR_long (a a' : Option Addr) (len len' cap cap' : Nat) (w : World) (h : 100000 < len ∨ 100000 < len') (hm : len + len' ≤ 300000) :
    Calls Tryd.prog 4 #[.slice a len cap, .slice a' len' cap'] w fun e w' => e = .returned (.bool true) ∧ Below w.heap.size w w' := by
  have ML := make_long a a' len len' cap cap' w h hm
  have h3 : ¬ (300000 : Int) < len + len' := by omega
  by_cases h1 : 100000 < len
  · have h1' : (100000 : Int) < len := by omega
    go_enter Tryd.func4, Tryd.ntmps4
    go_wp2_with (go_at_call 14; refine ML.mono ?_; clear ML; rintro ev w1 ⟨rfl, rfl⟩)
    go_ret
    exact ⟨rfl, Below.refl _ _⟩
  · have h1' : ¬ (100000 : Int) < len := by omega
    have h2' : (100000 : Int) < len' := by omega
    go_enter Tryd.func4, Tryd.ntmps4
    go_wp2_with (go_at_call 14; refine ML.mono ?_; clear ML; rintro ev w1 ⟨rfl, rfl⟩)
    go_ret
    exact ⟨rfl, Below.refl _ _⟩
end Go.Proofs.YtblegkefeiefjaaDoor
