/-
  DERIVED. GIVEN WITH THE SEED: THE CARDS: each row of YtdfihfmmfmoabaaDoorRows.lean that lists a variable, with what it lists TIED to the program's text (the seventh form; the later family's looks); each row that meets fmt, with fmt's text TOLD by the authors' own Lean function (tested against real Go, not proved from fmt's source: count such statements apart). THE CARD IS WHAT COUNTS. Prove the row's statement (the work); the ties are given (YtdfihfmmfmoabaaDoorTie.lean); close each card by the builder's one call (the guide's Derived/Test/ToyasCard.lean, 'card_holds'). Laid BY PROGRAM, IN A SANDBOX (cutbox-door.mjs). By AI agents, Wed Nov 11 2026. No macro, syntax, notation, axiom, sorry.
-/
import Derived.Test.YtdfihfmmfmoabaaDoorRows
import GoSem.ClaimSeven
namespace Go.Proofs.YtdfihfmmfmoabaaDoor
namespace Rows

/-- THE TIED CARD OF 'gitlikelaw5.PackIndexes'. -/
def packIndexesCard : Claim7 := { stood := { row := packIndexesRow, standIns := [], harness := (true, "af5ed904ffdc1bdef9c50a7563606577debce03cc5703fe30f8ec5c309d6653f"), looks := true }, kinds := [], alts := [], laidByText := true, laidKinds := [.handle], laidTests := true, laidLooks := .later }
def PackIndexesCardSaid : Prop := Claim7.holds Tryd.pinned (.plain (OpenSpec.ofChange packIndexesSpec)) packIndexesCard

/-- THE SECOND FORM's CARD OF 'gitlikelaw5.PackIndexes'. -/
def packIndexesUptoCard : Claim7 := { stood := { row := packIndexesUptoRow, standIns := [], harness := (true, "af5ed904ffdc1bdef9c50a7563606577debce03cc5703fe30f8ec5c309d6653f"), looks := true }, kinds := [], alts := [], laidByText := true, laidKinds := [.handle], laidTests := true, laidLooks := .later }
def PackIndexesUptoCardSaid : Prop := Claim7.holds Tryd.pinned (.plain (OpenSpec.upto packIndexesSpec)) packIndexesUptoCard
end Rows
end Go.Proofs.YtdfihfmmfmoabaaDoor
