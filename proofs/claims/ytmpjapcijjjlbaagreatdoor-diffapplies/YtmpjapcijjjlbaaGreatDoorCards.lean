/-
  DERIVED. GIVEN WITH THE SEED: THE CARDS: each row of YtmpjapcijjjlbaaGreatDoorRows.lean that lists a variable, with what it lists TIED to the program's text (the seventh form; the later family's looks); each row that meets fmt, with fmt's text TOLD by the authors' own Lean function (tested against real Go, not proved from fmt's source: count such statements apart). THE CARD IS WHAT COUNTS. Prove the row's statement (the work); the ties are given (YtmpjapcijjjlbaaGreatDoorTie.lean); close each card by the builder's one call (the guide's Derived/Test/ToyasCard.lean, 'card_holds'). Laid BY PROGRAM, IN A SANDBOX (cutbox-door.mjs). By AI agents, Wed Nov 11 2026. No macro, syntax, notation, axiom, sorry.
-/
import Derived.Test.YtmpjapcijjjlbaaGreatDoorRows
import GoSem.ClaimSeven
namespace Go.Proofs.YtmpjapcijjjlbaaGreatDoor
namespace Rows

/-- THE TIED CARD OF 'gitlikelaw10.DiffRound'. -/
def diffRoundCard : Claim7 := { stood := { row := diffRoundRow, standIns := [], harness := (true, "eb75af6aec19336e413c011d68035310123bcbaffa0dad9115bdc607f195bdc0"), looks := true }, kinds := [], alts := [], laidByText := true, laidKinds := [.data, .data, .data, .handle, .sentinel, .sentinel], laidTests := true, laidLooks := .later }
def DiffRoundCardSaid : Prop := Claim7.holds Tryz.pinned (.plain (OpenSpec.ofChange diffRoundSpec)) diffRoundCard

/-- THE TIED CARD OF 'gitlikelaw10.DiffApplies'. -/
def diffAppliesCard : Claim7 := { stood := { row := diffAppliesRow, standIns := [], harness := (true, "eb75af6aec19336e413c011d68035310123bcbaffa0dad9115bdc607f195bdc0"), looks := true }, kinds := [], alts := [], laidByText := true, laidKinds := [.data, .data, .data, .handle, .sentinel, .sentinel], laidTests := true, laidLooks := .later }
def DiffAppliesCardSaid : Prop := Claim7.holds Tryz.pinned (.plain (OpenSpec.ofChange diffAppliesSpec)) diffAppliesCard

/-- THE SECOND FORM's CARD OF 'gitlikelaw10.DiffRound'. -/
def diffRoundUptoCard : Claim7 := { stood := { row := diffRoundUptoRow, standIns := [], harness := (true, "eb75af6aec19336e413c011d68035310123bcbaffa0dad9115bdc607f195bdc0"), looks := true }, kinds := [], alts := [], laidByText := true, laidKinds := [.data, .data, .data, .handle, .sentinel, .sentinel], laidTests := true, laidLooks := .later }
def DiffRoundUptoCardSaid : Prop := Claim7.holds Tryz.pinned (.plain (OpenSpec.upto diffRoundSpec)) diffRoundUptoCard

/-- THE SECOND FORM's CARD OF 'gitlikelaw10.DiffApplies'. -/
def diffAppliesUptoCard : Claim7 := { stood := { row := diffAppliesUptoRow, standIns := [], harness := (true, "eb75af6aec19336e413c011d68035310123bcbaffa0dad9115bdc607f195bdc0"), looks := true }, kinds := [], alts := [], laidByText := true, laidKinds := [.data, .data, .data, .handle, .sentinel, .sentinel], laidTests := true, laidLooks := .later }
def DiffAppliesUptoCardSaid : Prop := Claim7.holds Tryz.pinned (.plain (OpenSpec.upto diffAppliesSpec)) diffAppliesUptoCard
end Rows
end Go.Proofs.YtmpjapcijjjlbaaGreatDoor
