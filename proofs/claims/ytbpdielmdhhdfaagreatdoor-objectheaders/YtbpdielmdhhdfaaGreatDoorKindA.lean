/- Package object: the kinds' names; 'fits'. -/
import Derived.Test.YtbpdielmdhhdfaaGreatDoorBase
namespace Go.Proofs.YtbpdielmdhhdfaaGreatDoor
open Go.RowKit
set_option linter.unusedVariables false
set_option linter.unusedSimpArgs false
/-- 3.1: a kind's name; none: empty. -/
def kN (k : Int) : ByteArray := if k == 1 then ⟨#[99, 111, 109, 109, 105, 116]⟩ else if k == 2 then ⟨#[116, 114, 101, 101]⟩ else if k == 3 then ⟨#[98, 108, 111, 98]⟩ else if k == 4 then ⟨#[116, 97, 103]⟩ else ⟨#[]⟩
set_option maxRecDepth 20000 in
theorem kindName_any (k : Int) (w : World) : Calls Tryz.prog 65 #[.int .i64 k] w fun e w' => e = .returned (.string (kN k)) ∧ w' = w := by
  go_enter Tryz.func65, Tryz.ntmps65
  go_wp2
  all_goals (go_ret; refine ⟨?_, rfl⟩; unfold kN; simp [*])
set_option maxRecDepth 20000 in
theorem name_any (k : Int) (w : World) : Calls Tryz.prog 37 #[.int .i64 k] w fun e w' => e = .returned (.string (kN k)) ∧ w' = w := by
  go_enter Tryz.func37, Tryz.ntmps37
  go_wp2
  all_goals (go_ret; refine ⟨?_, rfl⟩; unfold kN; simp [*])
/-- 3.1: 'fits': no kind (20), too long (11), or it fits. -/
def fitsV (k : Int) (n : Nat) : Value := if (kN k).toList.isEmpty = true then .iface 35 (.int .i64 20) else if (100000 : Int) < n then .iface 35 (.int .i64 11) else .nilIface
set_option maxRecDepth 20000 in
theorem fits_any (k : Int) (a : Option Addr) (n cap : Nat) (w : World) : Calls Tryz.prog 33 #[.agg #[.int .i64 k, .slice a n cap]] w fun e w' => e = .returned (fitsV k n) ∧ w' = w.alloc (.cells #[.int .i64 k, .slice a n cap] 25) := by
  go_enter Tryz.func33, Tryz.ntmps33
  go_wp2_with (go_at_call 65; refine (kindName_any _ _).mono ?_; rintro ev w1 ⟨rfl, rfl⟩)
  all_goals (go_ret; refine ⟨?_, rfl⟩; unfold fitsV; simp [*])
end Go.Proofs.YtbpdielmdhhdfaaGreatDoor
