/-
  DERIVED. GIVEN WITH THE SEED: THE CARDS: each row of YticgindfipobiaaGreatDoorRows.lean that lists a variable, with what it lists TIED to the program's text (the seventh form; the later family's looks); each row that meets fmt, with fmt's text TOLD by the authors' own Lean function (tested against real Go, not proved from fmt's source: count such statements apart). THE CARD IS WHAT COUNTS. Prove the row's statement (the work); the ties are given (YticgindfipobiaaGreatDoorTie.lean); close each card by the builder's one call (the guide's Derived/Test/ToyasCard.lean, 'card_holds'). Laid BY PROGRAM, IN A SANDBOX (cutbox-door.mjs). By AI agents, Wed Nov 11 2026. No macro, syntax, notation, axiom, sorry.
-/
import Derived.Test.YticgindfipobiaaGreatDoorRows
import GoSem.ClaimSeven
namespace Go.Proofs.YticgindfipobiaaGreatDoor
namespace Rows

/-- THE TIED CARD OF 'gitlikelaw9.GraphClosures'. -/
def graphClosuresCard : Claim7 := { stood := { row := graphClosuresRow, standIns := [], harness := (true, "0f69d6327ad8f24133b30418e4f54e407a2812125d4056a79393335f6fb2dfaf"), looks := true }, kinds := [], alts := [], laidByText := true, laidKinds := [.data, .data, .data, .data, .handle, .sentinel, .sentinel, .pinned], laidTests := true, laidLooks := .later }
def GraphClosuresCardSaid : Prop := Claim7.holds Tryz.pinned (.plain (OpenSpec.ofChange graphClosuresSpec)) graphClosuresCard

/-- THE SECOND FORM's CARD OF 'gitlikelaw9.GraphClosures'. -/
def graphClosuresUptoCard : Claim7 := { stood := { row := graphClosuresUptoRow, standIns := [], harness := (true, "0f69d6327ad8f24133b30418e4f54e407a2812125d4056a79393335f6fb2dfaf"), looks := true }, kinds := [], alts := [], laidByText := true, laidKinds := [.data, .data, .data, .data, .handle, .sentinel, .sentinel, .pinned], laidTests := true, laidLooks := .later }
def GraphClosuresUptoCardSaid : Prop := Claim7.holds Tryz.pinned (.plain (OpenSpec.upto graphClosuresSpec)) graphClosuresUptoCard
end Rows
end Go.Proofs.YticgindfipobiaaGreatDoor
