/- 'reason', the deferred closure of 'Inflate'. -/
import Derived.Test.YtbiibhpknflagaaDoorSymA
import Derived.Defers
import Derived.Recover
namespace Go.Proofs.YtbiibhpknflagaaDoor
open Go.RowKit Plain
set_option linter.unusedVariables false

theorem assert_errno (k : Int) (w : World) : (Instr.typeAssert (.iface 32 (.int .i64 k)) 20 32 true).run Tryd.prog w = .ok (.tuple #[.int .i64 k, .bool true]) w := by kernel_rfl

set_option maxRecDepth 20000 in
set_option maxHeartbeats 1000000 in
theorem reason_errno (k : Int) (w : World) :
    Calls Tryd.prog 19 #[.iface 32 (.int .i64 k)] w fun e w' => e = .returned (.iface 32 (.int .i64 k)) ∧ w = w' := by
  have hta := assert_errno k
  go_enter Tryd.func19, Tryd.ntmps19
  go_wp2
  go_ret
  exact ⟨rfl, rfl⟩

theorem catch_panicking (p : Addr) (k : Int) (v : Value) (older : List PanicEntry) (w : World) (hc : w.cell? p = some v) (hz : w.frozen? p = false) :
    CallsD Tryd.prog 18 #[.pointer (some p)] (.panicking ({ v := .iface 32 (.int .i64 k), recovered := false } :: older)) w fun e u' w' =>
      e = .returned (.tuple #[]) ∧ u' = .panicking ({ v := .iface 32 (.int .i64 k), recovered := true } :: older) ∧ w' = w.setCell p (.iface 32 (.int .i64 k)) := by
  refine callsD_of_wpS Tryd.func18 rfl fun c₀ cs hu => ?_
  apply wpS_seq
  apply wpS_region
  simp [wpOpsS, go_sem, recoverD, hu, Tryd.ntmps18, Exit.thenS]
  refine wpS_of_wp ?_
  go_wp2_with (go_at_call 19; refine (reason_errno k _).mono ?_; rintro e w' ⟨rfl, rfl⟩)
  simp [bodyPostS, results, Tryd.results18]

theorem catch_idle (p : Addr) (w : World) :
    CallsD Tryd.prog 18 #[.pointer (some p)] .returning w fun e u' w' => e = .returned (.tuple #[]) ∧ u' = .returning ∧ w' = w := by
  refine callsD_of_wpS Tryd.func18 rfl fun c₀ cs hu => ?_
  apply wpS_seq
  apply wpS_region
  simp [wpOpsS, go_sem, recoverD, hu, Tryd.ntmps18, Exit.thenS]
  refine wpS_of_wp ?_
  go_wp2
  cases c₀
  simp_all [bodyPostS, results, Tryd.results18]
end Go.Proofs.YtbiibhpknflagaaDoor
