/-
  DERIVED. GIVEN WITH THE SEED: THE CARDS: each row of YtblegkefeiefjaaDoorRows.lean that lists a variable, with what it lists TIED to the program's text (the seventh form; the later family's looks); each row that meets fmt, with fmt's text TOLD by the authors' own Lean function (tested against real Go, not proved from fmt's source: count such statements apart). THE CARD IS WHAT COUNTS. Prove the row's statement (the work); the ties are given (YtblegkefeiefjaaDoorTie.lean); close each card by the builder's one call (the guide's Derived/Test/ToyasCard.lean, 'card_holds'). Laid BY PROGRAM, IN A SANDBOX (cutbox-door.mjs). By AI agents, Wed Nov 11 2026. No macro, syntax, notation, axiom, sorry.
-/
import Derived.Test.YtblegkefeiefjaaDoorRows
import GoSem.ClaimSeven
namespace Go.Proofs.YtblegkefeiefjaaDoor
namespace Rows

/-- THE TIED CARD OF 'gitlikelaw4.DeltaApplies'. -/
def deltaAppliesCard : Claim7 := { stood := { row := deltaAppliesRow, standIns := [], harness := (true, "f0c9a38ab447de5b0cd681c215c2112b08989e7fa73971490a774f59beb195b3"), looks := true }, kinds := [], alts := [], laidByText := true, laidKinds := [.handle], laidTests := true, laidLooks := .later }
def DeltaAppliesCardSaid : Prop := Claim7.holds Tryd.pinned (.plain (OpenSpec.ofChange deltaAppliesSpec)) deltaAppliesCard

/-- THE TIED CARD OF 'gitlikelaw4.DeltaRound'. -/
def deltaRoundCard : Claim7 := { stood := { row := deltaRoundRow, standIns := [], harness := (true, "f0c9a38ab447de5b0cd681c215c2112b08989e7fa73971490a774f59beb195b3"), looks := true }, kinds := [], alts := [], laidByText := true, laidKinds := [.handle], laidTests := true, laidLooks := .later }
def DeltaRoundCardSaid : Prop := Claim7.holds Tryd.pinned (.plain (OpenSpec.ofChange deltaRoundSpec)) deltaRoundCard

/-- THE TIED CARD OF 'gitlikelaw4.DeltaMoved'. -/
def deltaMovedCard : Claim7 := { stood := { row := deltaMovedRow, standIns := [], harness := (true, "f0c9a38ab447de5b0cd681c215c2112b08989e7fa73971490a774f59beb195b3"), looks := true }, kinds := [], alts := [], laidByText := true, laidKinds := [.handle], laidTests := true, laidLooks := .later }
def DeltaMovedCardSaid : Prop := Claim7.holds Tryd.pinned (.plain (OpenSpec.ofChange deltaMovedSpec)) deltaMovedCard

/-- THE SECOND FORM's CARD OF 'gitlikelaw4.DeltaApplies'. -/
def deltaAppliesUptoCard : Claim7 := { stood := { row := deltaAppliesUptoRow, standIns := [], harness := (true, "f0c9a38ab447de5b0cd681c215c2112b08989e7fa73971490a774f59beb195b3"), looks := true }, kinds := [], alts := [], laidByText := true, laidKinds := [.handle], laidTests := true, laidLooks := .later }
def DeltaAppliesUptoCardSaid : Prop := Claim7.holds Tryd.pinned (.plain (OpenSpec.upto deltaAppliesSpec)) deltaAppliesUptoCard

/-- THE SECOND FORM's CARD OF 'gitlikelaw4.DeltaRound'. -/
def deltaRoundUptoCard : Claim7 := { stood := { row := deltaRoundUptoRow, standIns := [], harness := (true, "f0c9a38ab447de5b0cd681c215c2112b08989e7fa73971490a774f59beb195b3"), looks := true }, kinds := [], alts := [], laidByText := true, laidKinds := [.handle], laidTests := true, laidLooks := .later }
def DeltaRoundUptoCardSaid : Prop := Claim7.holds Tryd.pinned (.plain (OpenSpec.upto deltaRoundSpec)) deltaRoundUptoCard

/-- THE SECOND FORM's CARD OF 'gitlikelaw4.DeltaMoved'. -/
def deltaMovedUptoCard : Claim7 := { stood := { row := deltaMovedUptoRow, standIns := [], harness := (true, "f0c9a38ab447de5b0cd681c215c2112b08989e7fa73971490a774f59beb195b3"), looks := true }, kinds := [], alts := [], laidByText := true, laidKinds := [.handle], laidTests := true, laidLooks := .later }
def DeltaMovedUptoCardSaid : Prop := Claim7.holds Tryd.pinned (.plain (OpenSpec.upto deltaMovedSpec)) deltaMovedUptoCard
end Rows
end Go.Proofs.YtblegkefeiefjaaDoor
