/-
  DERIVED. GIVEN WITH THE SEED: THE CARDS: each row of YtbcbikdfidmecaaDoorRows.lean that lists a variable, with what it lists TIED to the program's text (the seventh form; the later family's looks); each row that meets fmt, with fmt's text TOLD by the authors' own Lean function (tested against real Go, not proved from fmt's source: count such statements apart). THE CARD IS WHAT COUNTS. Prove the row's statement (the work); the ties are given (YtbcbikdfidmecaaDoorTie.lean); close each card by the builder's one call (the guide's Derived/Test/ToyasCard.lean, 'card_holds'). Laid BY PROGRAM, IN A SANDBOX (cutbox-door.mjs). By AI agents, Wed Nov 11 2026. No macro, syntax, notation, axiom, sorry.
-/
import Derived.Test.YtbcbikdfidmecaaDoorRows
import GoSem.ClaimSeven
namespace Go.Proofs.YtbcbikdfidmecaaDoor
namespace Rows

/-- THE TIED CARD OF 'gitlikelaw12.WireLines'. -/
def wireLinesCard : Claim7 := { stood := { row := wireLinesRow, standIns := [], harness := (true, "e6d44dc4b3b52f105bd5016de87c3ad7819e89515984b87702a6df6c115ee3e1"), looks := true }, kinds := [], alts := [], laidByText := true, laidKinds := [.data, .data, .data, .handle, .sentinel, .sentinel], laidTests := true, laidLooks := .later }
def WireLinesCardSaid : Prop := Claim7.holds Tryd.pinned (.plain (OpenSpec.ofChange wireLinesSpec)) wireLinesCard

/-- THE SECOND FORM's CARD OF 'gitlikelaw12.WireLines'. -/
def wireLinesUptoCard : Claim7 := { stood := { row := wireLinesUptoRow, standIns := [], harness := (true, "e6d44dc4b3b52f105bd5016de87c3ad7819e89515984b87702a6df6c115ee3e1"), looks := true }, kinds := [], alts := [], laidByText := true, laidKinds := [.data, .data, .data, .handle, .sentinel, .sentinel], laidTests := true, laidLooks := .later }
def WireLinesUptoCardSaid : Prop := Claim7.holds Tryd.pinned (.plain (OpenSpec.upto wireLinesSpec)) wireLinesUptoCard
end Rows
end Go.Proofs.YtbcbikdfidmecaaDoor
