/-
  DERIVED. GIVEN WITH THE SEED: THE CARDS: each row of YtgliaiemkfopeaaGreatDoorRows.lean that lists a variable, with what it lists TIED to the program's text (the seventh form; the later family's looks); each row that meets fmt, with fmt's text TOLD by the authors' own Lean function (tested against real Go, not proved from fmt's source: count such statements apart). THE CARD IS WHAT COUNTS. Prove the row's statement (the work); the ties are given (YtgliaiemkfopeaaGreatDoorTie.lean); close each card by the builder's one call (the guide's Derived/Test/ToyasCard.lean, 'card_holds'). Laid BY PROGRAM, IN A SANDBOX (cutbox-door.mjs). By AI agents, Wed Nov 11 2026. No macro, syntax, notation, axiom, sorry.
-/
import Derived.Test.YtgliaiemkfopeaaGreatDoorRows
import GoSem.ClaimSeven
namespace Go.Proofs.YtgliaiemkfopeaaGreatDoor
namespace Rows

/-- THE TIED CARD OF 'gitlikelaw7.RefsKeep'. -/
def refsKeepCard : Claim7 := { stood := { row := refsKeepRow, standIns := [], harness := (true, "6ac6c322c3f446cd50f0566435308fbf25adefea73dbf358bf239310d248ec74"), looks := true }, kinds := [], alts := [], laidByText := true, laidKinds := [.data, .data, .data, .data, .handle, .sentinel, .sentinel, .sentinel, .pinned], laidTests := true, laidLooks := .later }
def RefsKeepCardSaid : Prop := Claim7.holds Tryz.pinned (.plain (OpenSpec.ofChange refsKeepSpec)) refsKeepCard

/-- THE SECOND FORM's CARD OF 'gitlikelaw7.RefsKeep'. -/
def refsKeepUptoCard : Claim7 := { stood := { row := refsKeepUptoRow, standIns := [], harness := (true, "6ac6c322c3f446cd50f0566435308fbf25adefea73dbf358bf239310d248ec74"), looks := true }, kinds := [], alts := [], laidByText := true, laidKinds := [.data, .data, .data, .data, .handle, .sentinel, .sentinel, .sentinel, .pinned], laidTests := true, laidLooks := .later }
def RefsKeepUptoCardSaid : Prop := Claim7.holds Tryz.pinned (.plain (OpenSpec.upto refsKeepSpec)) refsKeepUptoCard
end Rows
end Go.Proofs.YtgliaiemkfopeaaGreatDoor
