/-
  DERIVED. GIVEN WITH THE SEED: THE PROGRAM's TIES (one call each: nine closed facts by the kernel) AND EACH ROW's TIE, after the 31st guide's Derived/Test/Toyas{Tie, Card}.lean. No idea stands in it: it is a product of the set-up. Laid BY PROGRAM, IN A SANDBOX (cutbox-door.mjs). By AI agents, Wed Nov 11 2026. No macro, syntax, notation, axiom, sorry.
-/
import Derived.Test.YtbiibhpknflagaaDoorRows
import Derived.LaidByTextLater
import Derived.SevenTiedAt
import Derived.LaidSub
import Derived.LaidOnce
namespace Go.Proofs.YtbiibhpknflagaaDoor
open Go
set_option maxRecDepth 100000
theorem seatTie1 : Tryd.prog.laidByTextLater [("errors.errorType", Rows.laid_errors_errorType), ("gitlike/deflate.crcOfFour", Rows.laid_gitlike_deflate_crcOfFour), ("gitlike/deflate.lengthStart", Rows.laid_gitlike_deflate_lengthStart), ("gitlike/deflate.lengthBits", Rows.laid_gitlike_deflate_lengthBits), ("gitlike/deflate.distanceStart", Rows.laid_gitlike_deflate_distanceStart), ("gitlike/deflate.distanceBits", Rows.laid_gitlike_deflate_distanceBits), ("gitlike/deflate.thirdOrder", Rows.laid_gitlike_deflate_thirdOrder)] [.handle, .data, .data, .data, .data, .data, .data] true :=
  Program.laidByTextLater_by_one 46 8 31 (by kernel_rfl) (by kernel_rfl) (by kernel_rfl) (by kernel_rfl) (by kernel_rfl) (by kernel_rfl) (fun _ _ => by kernel_rfl)
theorem noOwnUnsafe : Tryd.pinned.checked.prog.headLifts.contains "ownunsafe" = false := by kernel_rfl
theorem tie : Tryd.prog.laidByTextLater [("gitlike/deflate.crcOfFour", Rows.laid_gitlike_deflate_crcOfFour)] [.data] true :=
  Program.laidByTextLater.sub seatTie1 ["gitlike/deflate.crcOfFour"] (by kernel_rfl) (by kernel_rfl)
theorem deflateSums_row_tie : Rows.deflateSumsRow.laidByTextAt .later Tryd.pinned [.data] true :=
  OpenClaim.laidByTextAt_later rfl rfl tie noOwnUnsafe
theorem tie2 : Tryd.prog.laidByTextLater [("errors.errorType", Rows.laid_errors_errorType), ("gitlike/deflate.lengthStart", Rows.laid_gitlike_deflate_lengthStart), ("gitlike/deflate.lengthBits", Rows.laid_gitlike_deflate_lengthBits), ("gitlike/deflate.distanceStart", Rows.laid_gitlike_deflate_distanceStart), ("gitlike/deflate.distanceBits", Rows.laid_gitlike_deflate_distanceBits), ("gitlike/deflate.thirdOrder", Rows.laid_gitlike_deflate_thirdOrder)] [.handle, .data, .data, .data, .data, .data] true :=
  Program.laidByTextLater.sub seatTie1 ["errors.errorType", "gitlike/deflate.lengthStart", "gitlike/deflate.lengthBits", "gitlike/deflate.distanceStart", "gitlike/deflate.distanceBits", "gitlike/deflate.thirdOrder"] (by kernel_rfl) (by kernel_rfl)
theorem deflateReads_row_tie : Rows.deflateReadsRow.laidByTextAt .later Tryd.pinned [.handle, .data, .data, .data, .data, .data] true :=
  OpenClaim.laidByTextAt_later rfl rfl tie2 noOwnUnsafe
theorem deflateRound_row_tie : Rows.deflateRoundRow.laidByTextAt .later Tryd.pinned [.handle, .data, .data, .data, .data, .data] true :=
  OpenClaim.laidByTextAt_later rfl rfl tie2 noOwnUnsafe
theorem deflateShort_row_tie : Rows.deflateShortRow.laidByTextAt .later Tryd.pinned [.handle, .data, .data, .data, .data, .data] true :=
  OpenClaim.laidByTextAt_later rfl rfl tie2 noOwnUnsafe
theorem deflateSumsUpto_row_tie : Rows.deflateSumsUptoRow.laidByTextAt .later Tryd.pinned [.data] true :=
  OpenClaim.laidByTextAt_later rfl rfl tie noOwnUnsafe
theorem deflateReadsUpto_row_tie : Rows.deflateReadsUptoRow.laidByTextAt .later Tryd.pinned [.handle, .data, .data, .data, .data, .data] true :=
  OpenClaim.laidByTextAt_later rfl rfl tie2 noOwnUnsafe
theorem deflateRoundUpto_row_tie : Rows.deflateRoundUptoRow.laidByTextAt .later Tryd.pinned [.handle, .data, .data, .data, .data, .data] true :=
  OpenClaim.laidByTextAt_later rfl rfl tie2 noOwnUnsafe
theorem deflateShortUpto_row_tie : Rows.deflateShortUptoRow.laidByTextAt .later Tryd.pinned [.handle, .data, .data, .data, .data, .data] true :=
  OpenClaim.laidByTextAt_later rfl rfl tie2 noOwnUnsafe
end Go.Proofs.YtbiibhpknflagaaDoor
