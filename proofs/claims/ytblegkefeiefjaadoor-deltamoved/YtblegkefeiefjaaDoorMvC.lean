/- The law 'DeltaMoved': inputs that it lets go. -/
import Derived.Test.YtblegkefeiefjaaDoorMvA
namespace Go.Proofs.YtblegkefeiefjaaDoor
open Go.RowKit Plain Go.Shelf Go.Maps
set_option linter.unusedVariables false
set_option linter.unusedSimpArgs false
set_option maxRecDepth 20000 in
set_option maxHeartbeats 1000000 in
theorem walkM_else (a a' pa : Option Addr) (X cap Z cap' N pc : Nat) (w : World) (h : 20000 < X ∨ X < 32 ∨ 20000 < Z ∨ 1000 < N) :
    Calls Tryd.prog 5 #[.slice a X cap, .slice a' Z cap', .slice pa N pc] w fun e w' => e = .returned (.bool true) ∧ Below w.heap.size w w' := by
  by_cases h1 : 20000 < X
  · have h1I : (20000 : Int) < X := by omega
    go_enter Tryd.func5, Tryd.ntmps5
    go_wp2
    go_ret
    exact ⟨rfl, Below.refl _ _⟩
  · have h1I : ¬ (20000 : Int) < X := by omega
    by_cases h2 : X < 32
    · have h2I : (X : Int) < 32 := by omega
      go_enter Tryd.func5, Tryd.ntmps5
      go_wp2
      go_ret
      exact ⟨rfl, Below.refl _ _⟩
    · have h2I : ¬ (X : Int) < 32 := by omega
      by_cases h3 : 20000 < Z
      · have h3I : (20000 : Int) < Z := by omega
        go_enter Tryd.func5, Tryd.ntmps5
        go_wp2
        go_ret
        exact ⟨rfl, Below.refl _ _⟩
      · have h3I : ¬ (20000 : Int) < Z := by omega
        have h4I : (1000 : Int) < N := by omega
        go_enter Tryd.func5, Tryd.ntmps5
        go_wp2
        go_ret
        exact ⟨rfl, Below.refl _ _⟩
end Go.Proofs.YtblegkefeiefjaaDoor
