/-
  DERIVED. GIVEN WITH THE SEED: THE CARDS: each row of YtbiibhpknflagaaDoorRows.lean that lists a variable, with what it lists TIED to the program's text (the seventh form; the later family's looks); each row that meets fmt, with fmt's text TOLD by the authors' own Lean function (tested against real Go, not proved from fmt's source: count such statements apart). THE CARD IS WHAT COUNTS. Prove the row's statement (the work); the ties are given (YtbiibhpknflagaaDoorTie.lean); close each card by the builder's one call (the guide's Derived/Test/ToyasCard.lean, 'card_holds'). Laid BY PROGRAM, IN A SANDBOX (cutbox-door.mjs). By AI agents, Wed Nov 11 2026. No macro, syntax, notation, axiom, sorry.
-/
import Derived.Test.YtbiibhpknflagaaDoorRows
import GoSem.ClaimSeven
namespace Go.Proofs.YtbiibhpknflagaaDoor
namespace Rows

/-- THE TIED CARD OF 'gitlikelaw1.DeflateSums'. -/
def deflateSumsCard : Claim7 := { stood := { row := deflateSumsRow, standIns := [], harness := (true, "7d10d52c2c980496dafab80e5c3e8ca36acc3c1764689708e5ec50497ea53cb4"), looks := true }, kinds := [], alts := [], laidByText := true, laidKinds := [.data], laidTests := true, laidLooks := .later }
def DeflateSumsCardSaid : Prop := Claim7.holds Tryd.pinned (.plain (OpenSpec.ofChange deflateSumsSpec)) deflateSumsCard

/-- THE TIED CARD OF 'gitlikelaw1.DeflateReads'. -/
def deflateReadsCard : Claim7 := { stood := { row := deflateReadsRow, standIns := [], harness := (true, "7d10d52c2c980496dafab80e5c3e8ca36acc3c1764689708e5ec50497ea53cb4"), looks := true }, kinds := [], alts := [], laidByText := true, laidKinds := [.handle, .data, .data, .data, .data, .data], laidTests := true, laidLooks := .later }
def DeflateReadsCardSaid : Prop := Claim7.holds Tryd.pinned (.plain (OpenSpec.ofChange deflateReadsSpec)) deflateReadsCard

/-- THE TIED CARD OF 'gitlikelaw1.DeflateRound'. -/
def deflateRoundCard : Claim7 := { stood := { row := deflateRoundRow, standIns := [], harness := (true, "7d10d52c2c980496dafab80e5c3e8ca36acc3c1764689708e5ec50497ea53cb4"), looks := true }, kinds := [], alts := [], laidByText := true, laidKinds := [.handle, .data, .data, .data, .data, .data], laidTests := true, laidLooks := .later }
def DeflateRoundCardSaid : Prop := Claim7.holds Tryd.pinned (.plain (OpenSpec.ofChange deflateRoundSpec)) deflateRoundCard

/-- THE TIED CARD OF 'gitlikelaw1.DeflateShort'. -/
def deflateShortCard : Claim7 := { stood := { row := deflateShortRow, standIns := [], harness := (true, "7d10d52c2c980496dafab80e5c3e8ca36acc3c1764689708e5ec50497ea53cb4"), looks := true }, kinds := [], alts := [], laidByText := true, laidKinds := [.handle, .data, .data, .data, .data, .data], laidTests := true, laidLooks := .later }
def DeflateShortCardSaid : Prop := Claim7.holds Tryd.pinned (.plain (OpenSpec.ofChange deflateShortSpec)) deflateShortCard

/-- THE SECOND FORM's CARD OF 'gitlikelaw1.DeflateSums'. -/
def deflateSumsUptoCard : Claim7 := { stood := { row := deflateSumsUptoRow, standIns := [], harness := (true, "7d10d52c2c980496dafab80e5c3e8ca36acc3c1764689708e5ec50497ea53cb4"), looks := true }, kinds := [], alts := [], laidByText := true, laidKinds := [.data], laidTests := true, laidLooks := .later }
def DeflateSumsUptoCardSaid : Prop := Claim7.holds Tryd.pinned (.plain (OpenSpec.upto deflateSumsSpec)) deflateSumsUptoCard

/-- THE SECOND FORM's CARD OF 'gitlikelaw1.DeflateReads'. -/
def deflateReadsUptoCard : Claim7 := { stood := { row := deflateReadsUptoRow, standIns := [], harness := (true, "7d10d52c2c980496dafab80e5c3e8ca36acc3c1764689708e5ec50497ea53cb4"), looks := true }, kinds := [], alts := [], laidByText := true, laidKinds := [.handle, .data, .data, .data, .data, .data], laidTests := true, laidLooks := .later }
def DeflateReadsUptoCardSaid : Prop := Claim7.holds Tryd.pinned (.plain (OpenSpec.upto deflateReadsSpec)) deflateReadsUptoCard

/-- THE SECOND FORM's CARD OF 'gitlikelaw1.DeflateRound'. -/
def deflateRoundUptoCard : Claim7 := { stood := { row := deflateRoundUptoRow, standIns := [], harness := (true, "7d10d52c2c980496dafab80e5c3e8ca36acc3c1764689708e5ec50497ea53cb4"), looks := true }, kinds := [], alts := [], laidByText := true, laidKinds := [.handle, .data, .data, .data, .data, .data], laidTests := true, laidLooks := .later }
def DeflateRoundUptoCardSaid : Prop := Claim7.holds Tryd.pinned (.plain (OpenSpec.upto deflateRoundSpec)) deflateRoundUptoCard

/-- THE SECOND FORM's CARD OF 'gitlikelaw1.DeflateShort'. -/
def deflateShortUptoCard : Claim7 := { stood := { row := deflateShortUptoRow, standIns := [], harness := (true, "7d10d52c2c980496dafab80e5c3e8ca36acc3c1764689708e5ec50497ea53cb4"), looks := true }, kinds := [], alts := [], laidByText := true, laidKinds := [.handle, .data, .data, .data, .data, .data], laidTests := true, laidLooks := .later }
def DeflateShortUptoCardSaid : Prop := Claim7.holds Tryd.pinned (.plain (OpenSpec.upto deflateShortSpec)) deflateShortUptoCard
end Rows
end Go.Proofs.YtbiibhpknflagaaDoor
