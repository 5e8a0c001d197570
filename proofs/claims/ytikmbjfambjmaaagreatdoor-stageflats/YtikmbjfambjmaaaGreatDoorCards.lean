/-
  DERIVED. GIVEN WITH THE SEED: THE CARDS: each row of YtikmbjfambjmaaaGreatDoorRows.lean that lists a variable, with what it lists TIED to the program's text (the seventh form; the later family's looks); each row that meets fmt, with fmt's text TOLD by the authors' own Lean function (tested against real Go, not proved from fmt's source: count such statements apart). THE CARD IS WHAT COUNTS. Prove the row's statement (the work); the ties are given (YtikmbjfambjmaaaGreatDoorTie.lean); close each card by the builder's one call (the guide's Derived/Test/ToyasCard.lean, 'card_holds'). Laid BY PROGRAM, IN A SANDBOX (cutbox-door.mjs). By AI agents, Wed Nov 11 2026. No macro, syntax, notation, axiom, sorry.
-/
import Derived.Test.YtikmbjfambjmaaaGreatDoorRows
import GoSem.ClaimSeven
namespace Go.Proofs.YtikmbjfambjmaaaGreatDoor
namespace Rows

/-- THE TIED CARD OF 'gitlikelaw8.StageFlats'. -/
def stageFlatsCard : Claim7 := { stood := { row := stageFlatsRow, standIns := [], harness := (true, "db11d301cd65d2de36acd4bd33c6f77bde13299850fc9c824c4844777822b12a"), looks := true }, kinds := [], alts := [], laidByText := true, laidKinds := [.data, .data, .data, .handle, .sentinel, .sentinel], laidTests := true, laidLooks := .later }
def StageFlatsCardSaid : Prop := Claim7.holds Tryz.pinned (.plain (OpenSpec.ofChange stageFlatsSpec)) stageFlatsCard

/-- THE SECOND FORM's CARD OF 'gitlikelaw8.StageFlats'. -/
def stageFlatsUptoCard : Claim7 := { stood := { row := stageFlatsUptoRow, standIns := [], harness := (true, "db11d301cd65d2de36acd4bd33c6f77bde13299850fc9c824c4844777822b12a"), looks := true }, kinds := [], alts := [], laidByText := true, laidKinds := [.data, .data, .data, .handle, .sentinel, .sentinel], laidTests := true, laidLooks := .later }
def StageFlatsUptoCardSaid : Prop := Claim7.holds Tryz.pinned (.plain (OpenSpec.upto stageFlatsSpec)) stageFlatsUptoCard
end Rows
end Go.Proofs.YtikmbjfambjmaaaGreatDoor
