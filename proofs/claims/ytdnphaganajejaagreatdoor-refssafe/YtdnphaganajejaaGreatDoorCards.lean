/-
  DERIVED. GIVEN WITH THE SEED: THE CARDS: each row of YtdnphaganajejaaGreatDoorRows.lean that lists a variable, with what it lists TIED to the program's text (the seventh form; the later family's looks); each row that meets fmt, with fmt's text TOLD by the authors' own Lean function (tested against real Go, not proved from fmt's source: count such statements apart). THE CARD IS WHAT COUNTS. Prove the row's statement (the work); the ties are given (YtdnphaganajejaaGreatDoorTie.lean); close each card by the builder's one call (the guide's Derived/Test/ToyasCard.lean, 'card_holds'). Laid BY PROGRAM, IN A SANDBOX (cutbox-door.mjs). By AI agents, Wed Nov 11 2026. No macro, syntax, notation, axiom, sorry.
-/
import Derived.Test.YtdnphaganajejaaGreatDoorRows
import GoSem.ClaimSeven
namespace Go.Proofs.YtdnphaganajejaaGreatDoor
namespace Rows

/-- THE TIED CARD OF 'gitlikelaw7.RefsSafe'. -/
def refsSafeCard : Claim7 := { stood := { row := refsSafeRow, standIns := [], harness := (true, "f03712f7ef26f2e6dda6f2d40bb49ab6c339e34dfb0482211c6a5b839c946635"), looks := true }, kinds := [], alts := [], laidByText := true, laidKinds := [.data, .data, .data, .data, .handle, .sentinel, .sentinel, .sentinel, .pinned], laidTests := true, laidLooks := .later }
def RefsSafeCardSaid : Prop := Claim7.holds Tryz.pinned (.plain (OpenSpec.ofChange refsSafeSpec)) refsSafeCard

/-- THE SECOND FORM's CARD OF 'gitlikelaw7.RefsSafe'. -/
def refsSafeUptoCard : Claim7 := { stood := { row := refsSafeUptoRow, standIns := [], harness := (true, "f03712f7ef26f2e6dda6f2d40bb49ab6c339e34dfb0482211c6a5b839c946635"), looks := true }, kinds := [], alts := [], laidByText := true, laidKinds := [.data, .data, .data, .data, .handle, .sentinel, .sentinel, .sentinel, .pinned], laidTests := true, laidLooks := .later }
def RefsSafeUptoCardSaid : Prop := Claim7.holds Tryz.pinned (.plain (OpenSpec.upto refsSafeSpec)) refsSafeUptoCard
end Rows
end Go.Proofs.YtdnphaganajejaaGreatDoor
