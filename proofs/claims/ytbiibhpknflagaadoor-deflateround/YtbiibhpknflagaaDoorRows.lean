/-
  NARROWER THAN 'FOR EVERY INPUT', by the rows' own cells (each row's printed sentence says how): DeflateSums: laid · DeflateReads: laid · DeflateRound: laid · DeflateShort: laid.
  DERIVED. THE GIVEN ROWS OF THIS SEAT. 4 by the template 'for every input the law returns true; each argument reads behind the call as it read before'; 0 by the template 'total and deterministic' (their statements: YtbiibhpknflagaaDoorTotals.lean).
  GIVEN WITH THE SEED: the statements are not yours to turn. If you find one false, say at which input.
  Laid BY PROGRAM, IN A SANDBOX (cutbox-rows.mjs): the forced cells as the released guide's own fill.sh prints them over the translation fee5889427c0e7df… (all of the seat's roots in one cut). By AI agents, Wed Nov 11 2026. No macro, syntax, notation, axiom, sorry.
-/
import Derived.Test.YtbiibhpknflagaaDoorChecked
import GoSem.Claim
import GoSem.ClaimJoined
import GoSem.ClaimMapViews
import Derived.JoinedTies
import Derived.KernelRfl
namespace Go.Proofs.YtbiibhpknflagaaDoor
/- THE CELL 'sum', in the pinned program and in every row, IS THE sha256 OF THE DUMP (.gsa) THAT YtbiibhpknflagaaDoorProg.lean LOADS. Nothing in Lean hashes anything: it is a label: what it is worth is what the hold of that sum in a sandbox is worth. -/
noncomputable def Tryd.pinned : Pinned := { name := "ytbiibhpknflagaadoor", sum := "fee5889427c0e7df7fbf5254e96d668c95041034f3b4b604805a4d6fa710f533", checked := Tryd.checked }
namespace Rows
def none {H : Type} : Left H := { results := [], args := [] }

/- WHAT THE LISTED PACKAGE-LEVEL VARIABLES READ AS WHEN THE CALL BEGINS. Each datum BY PROGRAM (the guide's laid-datum.mjs) off the statement by which the dump's own 'gosem.cut.vars' lays the variable. In a bare row this is a premise. The card (YtbiibhpknflagaaDoorCards.lean) ties it to the program's text. -/
def laid_gitlike_deflate_crcOfFour {H : Type} : DataW H := .agg [.lit (.int .u32 0), .lit (.int .u32 498536548), .lit (.int .u32 997073096), .lit (.int .u32 651767980), .lit (.int .u32 1994146192), .lit (.int .u32 1802195444), .lit (.int .u32 1303535960), .lit (.int .u32 1342533948), .lit (.int .u32 3988292384), .lit (.int .u32 4027552580), .lit (.int .u32 3604390888), .lit (.int .u32 3412177804), .lit (.int .u32 2607071920), .lit (.int .u32 2262029012), .lit (.int .u32 2685067896), .lit (.int .u32 3183342108)]
def laid_errors_errorType {H : Type} : DataW H := .iface "internal/reflectlite.rtype" (.agg [.ptr (.lit (.string [101, 114, 114, 111, 114]))])
def laid_gitlike_deflate_lengthStart {H : Type} : DataW H := .agg [.lit (.int .i64 3), .lit (.int .i64 4), .lit (.int .i64 5), .lit (.int .i64 6), .lit (.int .i64 7), .lit (.int .i64 8), .lit (.int .i64 9), .lit (.int .i64 10), .lit (.int .i64 11), .lit (.int .i64 13), .lit (.int .i64 15), .lit (.int .i64 17), .lit (.int .i64 19), .lit (.int .i64 23), .lit (.int .i64 27), .lit (.int .i64 31), .lit (.int .i64 35), .lit (.int .i64 43), .lit (.int .i64 51), .lit (.int .i64 59), .lit (.int .i64 67), .lit (.int .i64 83), .lit (.int .i64 99), .lit (.int .i64 115), .lit (.int .i64 131), .lit (.int .i64 163), .lit (.int .i64 195), .lit (.int .i64 227), .lit (.int .i64 258)]
def laid_gitlike_deflate_lengthBits {H : Type} : DataW H := .agg [.lit (.int .i64 0), .lit (.int .i64 0), .lit (.int .i64 0), .lit (.int .i64 0), .lit (.int .i64 0), .lit (.int .i64 0), .lit (.int .i64 0), .lit (.int .i64 0), .lit (.int .i64 1), .lit (.int .i64 1), .lit (.int .i64 1), .lit (.int .i64 1), .lit (.int .i64 2), .lit (.int .i64 2), .lit (.int .i64 2), .lit (.int .i64 2), .lit (.int .i64 3), .lit (.int .i64 3), .lit (.int .i64 3), .lit (.int .i64 3), .lit (.int .i64 4), .lit (.int .i64 4), .lit (.int .i64 4), .lit (.int .i64 4), .lit (.int .i64 5), .lit (.int .i64 5), .lit (.int .i64 5), .lit (.int .i64 5), .lit (.int .i64 0)]
def laid_gitlike_deflate_distanceStart {H : Type} : DataW H := .agg [.lit (.int .i64 1), .lit (.int .i64 2), .lit (.int .i64 3), .lit (.int .i64 4), .lit (.int .i64 5), .lit (.int .i64 7), .lit (.int .i64 9), .lit (.int .i64 13), .lit (.int .i64 17), .lit (.int .i64 25), .lit (.int .i64 33), .lit (.int .i64 49), .lit (.int .i64 65), .lit (.int .i64 97), .lit (.int .i64 129), .lit (.int .i64 193), .lit (.int .i64 257), .lit (.int .i64 385), .lit (.int .i64 513), .lit (.int .i64 769), .lit (.int .i64 1025), .lit (.int .i64 1537), .lit (.int .i64 2049), .lit (.int .i64 3073), .lit (.int .i64 4097), .lit (.int .i64 6145), .lit (.int .i64 8193), .lit (.int .i64 12289), .lit (.int .i64 16385), .lit (.int .i64 24577)]
def laid_gitlike_deflate_distanceBits {H : Type} : DataW H := .agg [.lit (.int .i64 0), .lit (.int .i64 0), .lit (.int .i64 0), .lit (.int .i64 0), .lit (.int .i64 1), .lit (.int .i64 1), .lit (.int .i64 2), .lit (.int .i64 2), .lit (.int .i64 3), .lit (.int .i64 3), .lit (.int .i64 4), .lit (.int .i64 4), .lit (.int .i64 5), .lit (.int .i64 5), .lit (.int .i64 6), .lit (.int .i64 6), .lit (.int .i64 7), .lit (.int .i64 7), .lit (.int .i64 8), .lit (.int .i64 8), .lit (.int .i64 9), .lit (.int .i64 9), .lit (.int .i64 10), .lit (.int .i64 10), .lit (.int .i64 11), .lit (.int .i64 11), .lit (.int .i64 12), .lit (.int .i64 12), .lit (.int .i64 13), .lit (.int .i64 13)]
def laid_gitlike_deflate_thirdOrder {H : Type} : DataW H := .agg [.lit (.int .i64 16), .lit (.int .i64 17), .lit (.int .i64 18), .lit (.int .i64 0), .lit (.int .i64 8), .lit (.int .i64 7), .lit (.int .i64 9), .lit (.int .i64 6), .lit (.int .i64 10), .lit (.int .i64 5), .lit (.int .i64 11), .lit (.int .i64 4), .lit (.int .i64 12), .lit (.int .i64 3), .lit (.int .i64 13), .lit (.int .i64 2), .lit (.int .i64 14), .lit (.int .i64 1), .lit (.int .i64 15)]

/-- 'gitlikelaw1.DeflateSums': WHATEVER THE INPUT: true; the input reads as it did. -/
def deflateSumsSpec : ChangeSpec := { name := "deflateSums", fn := fun _ => fun
  | [d] => { results := [.lit (.bool true)], args := [d] }
  | _ => none }
def deflateSumsRow : OpenClaim := { program := "ytbiibhpknflagaadoor", sum := "fee5889427c0e7df7fbf5254e96d668c95041034f3b4b604805a4d6fa710f533", func := "gitlike/gitlikelaw1.DeflateSums", spec := "deflateSums", named := ["gitlike/deflate.crcOfFour"], apart := false, laid := [("gitlike/deflate.crcOfFour", laid_gitlike_deflate_crcOfFour)] }
def DeflateSumsSaid : Prop := deflateSumsRow.holds Tryd.pinned (OpenSpec.ofChange deflateSumsSpec)

/-- ITS FALSE NEIGHBOUR: 'it returns false'. Refute it at one input. -/
def deflateSumsWrong : ChangeSpec := { name := "deflateSums", fn := fun _ => fun
  | [d] => { results := [.lit (.bool false)], args := [d] }
  | _ => none }
def DeflateSumsWrongFalsely : Prop := deflateSumsRow.holds Tryd.pinned (OpenSpec.ofChange deflateSumsWrong)

/-- 'gitlikelaw1.DeflateReads': WHATEVER THE INPUT: true; the input reads as it did. -/
def deflateReadsSpec : ChangeSpec := { name := "deflateReads", fn := fun _ => fun
  | [d1, d2] => { results := [.lit (.bool true)], args := [d1, d2] }
  | _ => none }
def deflateReadsRow : OpenClaim := { program := "ytbiibhpknflagaadoor", sum := "fee5889427c0e7df7fbf5254e96d668c95041034f3b4b604805a4d6fa710f533", func := "gitlike/gitlikelaw1.DeflateReads", spec := "deflateReads", inPlace := ["internal/reflectlite.ValueOf", "(internal/reflectlite.Value).Type", "(internal/reflectlite.Value).IsNil", "internal/reflectlite.TypeOf", "(internal/reflectlite.Value).Elem", "(internal/reflectlite.Value).Set"], unfollowed := true, recurses := true, named := ["gitlike/deflate.lengthStart", "gitlike/deflate.lengthBits", "gitlike/deflate.distanceStart", "gitlike/deflate.distanceBits", "gitlike/deflate.thirdOrder", "errors.errorType"], apart := false, laid := [("errors.errorType", laid_errors_errorType), ("gitlike/deflate.lengthStart", laid_gitlike_deflate_lengthStart), ("gitlike/deflate.lengthBits", laid_gitlike_deflate_lengthBits), ("gitlike/deflate.distanceStart", laid_gitlike_deflate_distanceStart), ("gitlike/deflate.distanceBits", laid_gitlike_deflate_distanceBits), ("gitlike/deflate.thirdOrder", laid_gitlike_deflate_thirdOrder)] }
def DeflateReadsSaid : Prop := deflateReadsRow.holds Tryd.pinned (OpenSpec.ofChange deflateReadsSpec)

/-- ITS FALSE NEIGHBOUR: 'it returns false'. Refute it at one input. -/
def deflateReadsWrong : ChangeSpec := { name := "deflateReads", fn := fun _ => fun
  | [d1, d2] => { results := [.lit (.bool false)], args := [d1, d2] }
  | _ => none }
def DeflateReadsWrongFalsely : Prop := deflateReadsRow.holds Tryd.pinned (OpenSpec.ofChange deflateReadsWrong)

/-- 'gitlikelaw1.DeflateRound': WHATEVER THE INPUT: true; the input reads as it did. -/
def deflateRoundSpec : ChangeSpec := { name := "deflateRound", fn := fun _ => fun
  | [d1, d2] => { results := [.lit (.bool true)], args := [d1, d2] }
  | _ => none }
def deflateRoundRow : OpenClaim := { program := "ytbiibhpknflagaadoor", sum := "fee5889427c0e7df7fbf5254e96d668c95041034f3b4b604805a4d6fa710f533", func := "gitlike/gitlikelaw1.DeflateRound", spec := "deflateRound", inPlace := ["internal/reflectlite.ValueOf", "(internal/reflectlite.Value).Type", "(internal/reflectlite.Value).IsNil", "internal/reflectlite.TypeOf", "(internal/reflectlite.Value).Elem", "(internal/reflectlite.Value).Set"], unfollowed := true, recurses := true, named := ["gitlike/deflate.lengthStart", "gitlike/deflate.lengthBits", "gitlike/deflate.distanceStart", "gitlike/deflate.distanceBits", "gitlike/deflate.thirdOrder", "errors.errorType"], apart := false, laid := [("errors.errorType", laid_errors_errorType), ("gitlike/deflate.lengthStart", laid_gitlike_deflate_lengthStart), ("gitlike/deflate.lengthBits", laid_gitlike_deflate_lengthBits), ("gitlike/deflate.distanceStart", laid_gitlike_deflate_distanceStart), ("gitlike/deflate.distanceBits", laid_gitlike_deflate_distanceBits), ("gitlike/deflate.thirdOrder", laid_gitlike_deflate_thirdOrder)] }
def DeflateRoundSaid : Prop := deflateRoundRow.holds Tryd.pinned (OpenSpec.ofChange deflateRoundSpec)

/-- ITS FALSE NEIGHBOUR: 'it returns false'. Refute it at one input. -/
def deflateRoundWrong : ChangeSpec := { name := "deflateRound", fn := fun _ => fun
  | [d1, d2] => { results := [.lit (.bool false)], args := [d1, d2] }
  | _ => none }
def DeflateRoundWrongFalsely : Prop := deflateRoundRow.holds Tryd.pinned (OpenSpec.ofChange deflateRoundWrong)

/-- 'gitlikelaw1.DeflateShort': WHATEVER THE INPUT: true; the input reads as it did. -/
def deflateShortSpec : ChangeSpec := { name := "deflateShort", fn := fun _ => fun
  | [d1, d2] => { results := [.lit (.bool true)], args := [d1, d2] }
  | _ => none }
def deflateShortRow : OpenClaim := { program := "ytbiibhpknflagaadoor", sum := "fee5889427c0e7df7fbf5254e96d668c95041034f3b4b604805a4d6fa710f533", func := "gitlike/gitlikelaw1.DeflateShort", spec := "deflateShort", inPlace := ["internal/reflectlite.ValueOf", "(internal/reflectlite.Value).Type", "(internal/reflectlite.Value).IsNil", "internal/reflectlite.TypeOf", "(internal/reflectlite.Value).Elem", "(internal/reflectlite.Value).Set"], unfollowed := true, recurses := true, named := ["gitlike/deflate.lengthStart", "gitlike/deflate.lengthBits", "gitlike/deflate.distanceStart", "gitlike/deflate.distanceBits", "gitlike/deflate.thirdOrder", "errors.errorType"], apart := false, laid := [("errors.errorType", laid_errors_errorType), ("gitlike/deflate.lengthStart", laid_gitlike_deflate_lengthStart), ("gitlike/deflate.lengthBits", laid_gitlike_deflate_lengthBits), ("gitlike/deflate.distanceStart", laid_gitlike_deflate_distanceStart), ("gitlike/deflate.distanceBits", laid_gitlike_deflate_distanceBits), ("gitlike/deflate.thirdOrder", laid_gitlike_deflate_thirdOrder)] }
def DeflateShortSaid : Prop := deflateShortRow.holds Tryd.pinned (OpenSpec.ofChange deflateShortSpec)

/-- ITS FALSE NEIGHBOUR: 'it returns false'. Refute it at one input. -/
def deflateShortWrong : ChangeSpec := { name := "deflateShort", fn := fun _ => fun
  | [d1, d2] => { results := [.lit (.bool false)], args := [d1, d2] }
  | _ => none }
def DeflateShortWrongFalsely : Prop := deflateShortRow.holds Tryd.pinned (OpenSpec.ofChange deflateShortWrong)

/- THE SECOND FORM. 'bulk': how many values and letters a reading holds, each counted each time it is reached (what is shared counts as often as it is met; a slice's spare places count too). A statement '..UptoSaid' is the law's where the arguments, and the package variables that the reading takes, are together of bulk at most 1048576: NARROWER than '..Said'. Prove '..Said' where nothing that the law and all that it calls make is longer than what came in: it says more and counts as full. Else prove '..UptoSaid'. A law counts once. -/
mutual
def uptoBulk {H : Type} : DataW H → Nat
  | .lit (.string bytes) => bytes.length + 1
  | .lit _ => 1
  | .nil => 1
  | .ptr d => uptoBulk d + 1
  | .slice elems spare => uptoBulkAll elems + uptoBulkAll spare + 1
  | .agg parts => uptoBulkAll parts + 1
  | .iface _ d => uptoBulk d + 1
  | .map entries => uptoBulkEntries entries + 1
  | .held _ => 1
def uptoBulkAll {H : Type} : List (DataW H) → Nat
  | [] => 0
  | d :: r => uptoBulk d + uptoBulkAll r
def uptoBulkEntries {H : Type} : List (Lit × DataW H) → Nat
  | [] => 0
  | x :: r => uptoBulkEntry x + uptoBulkEntries r
def uptoBulkEntry {H : Type} : Lit × DataW H → Nat
  | (.string bytes, d) => bytes.length + uptoBulk d + 1
  | (_, d) => uptoBulk d + 1
 end
def uptoSmall : (H : Type) → List (DataW H) → Bool := fun _ ds => decide (uptoBulkAll ds ≤ 1048576)
def OpenSpec.upto (s : _root_.Go.ChangeSpec) : _root_.Go.OpenSpec := { _root_.Go.OpenSpec.ofChange s with cond := some uptoSmall }

/-- 'gitlikelaw1.DeflateSums', WHERE WHAT IT READS IS OF BULK AT MOST 1048576: true; the input reads as it did. -/
def deflateSumsUptoRow : OpenClaim := { program := "ytbiibhpknflagaadoor", sum := "fee5889427c0e7df7fbf5254e96d668c95041034f3b4b604805a4d6fa710f533", func := "gitlike/gitlikelaw1.DeflateSums", spec := "deflateSums", named := ["gitlike/deflate.crcOfFour"], apart := false, laid := [("gitlike/deflate.crcOfFour", laid_gitlike_deflate_crcOfFour)], narrowed := true }
def DeflateSumsUptoSaid : Prop := deflateSumsUptoRow.holds Tryd.pinned (OpenSpec.upto deflateSumsSpec)

/-- 'gitlikelaw1.DeflateReads', WHERE WHAT IT READS IS OF BULK AT MOST 1048576: true; the input reads as it did. -/
def deflateReadsUptoRow : OpenClaim := { program := "ytbiibhpknflagaadoor", sum := "fee5889427c0e7df7fbf5254e96d668c95041034f3b4b604805a4d6fa710f533", func := "gitlike/gitlikelaw1.DeflateReads", spec := "deflateReads", inPlace := ["internal/reflectlite.ValueOf", "(internal/reflectlite.Value).Type", "(internal/reflectlite.Value).IsNil", "internal/reflectlite.TypeOf", "(internal/reflectlite.Value).Elem", "(internal/reflectlite.Value).Set"], unfollowed := true, recurses := true, named := ["gitlike/deflate.lengthStart", "gitlike/deflate.lengthBits", "gitlike/deflate.distanceStart", "gitlike/deflate.distanceBits", "gitlike/deflate.thirdOrder", "errors.errorType"], apart := false, laid := [("errors.errorType", laid_errors_errorType), ("gitlike/deflate.lengthStart", laid_gitlike_deflate_lengthStart), ("gitlike/deflate.lengthBits", laid_gitlike_deflate_lengthBits), ("gitlike/deflate.distanceStart", laid_gitlike_deflate_distanceStart), ("gitlike/deflate.distanceBits", laid_gitlike_deflate_distanceBits), ("gitlike/deflate.thirdOrder", laid_gitlike_deflate_thirdOrder)], narrowed := true }
def DeflateReadsUptoSaid : Prop := deflateReadsUptoRow.holds Tryd.pinned (OpenSpec.upto deflateReadsSpec)

/-- 'gitlikelaw1.DeflateRound', WHERE WHAT IT READS IS OF BULK AT MOST 1048576: true; the input reads as it did. -/
def deflateRoundUptoRow : OpenClaim := { program := "ytbiibhpknflagaadoor", sum := "fee5889427c0e7df7fbf5254e96d668c95041034f3b4b604805a4d6fa710f533", func := "gitlike/gitlikelaw1.DeflateRound", spec := "deflateRound", inPlace := ["internal/reflectlite.ValueOf", "(internal/reflectlite.Value).Type", "(internal/reflectlite.Value).IsNil", "internal/reflectlite.TypeOf", "(internal/reflectlite.Value).Elem", "(internal/reflectlite.Value).Set"], unfollowed := true, recurses := true, named := ["gitlike/deflate.lengthStart", "gitlike/deflate.lengthBits", "gitlike/deflate.distanceStart", "gitlike/deflate.distanceBits", "gitlike/deflate.thirdOrder", "errors.errorType"], apart := false, laid := [("errors.errorType", laid_errors_errorType), ("gitlike/deflate.lengthStart", laid_gitlike_deflate_lengthStart), ("gitlike/deflate.lengthBits", laid_gitlike_deflate_lengthBits), ("gitlike/deflate.distanceStart", laid_gitlike_deflate_distanceStart), ("gitlike/deflate.distanceBits", laid_gitlike_deflate_distanceBits), ("gitlike/deflate.thirdOrder", laid_gitlike_deflate_thirdOrder)], narrowed := true }
def DeflateRoundUptoSaid : Prop := deflateRoundUptoRow.holds Tryd.pinned (OpenSpec.upto deflateRoundSpec)

/-- 'gitlikelaw1.DeflateShort', WHERE WHAT IT READS IS OF BULK AT MOST 1048576: true; the input reads as it did. -/
def deflateShortUptoRow : OpenClaim := { program := "ytbiibhpknflagaadoor", sum := "fee5889427c0e7df7fbf5254e96d668c95041034f3b4b604805a4d6fa710f533", func := "gitlike/gitlikelaw1.DeflateShort", spec := "deflateShort", inPlace := ["internal/reflectlite.ValueOf", "(internal/reflectlite.Value).Type", "(internal/reflectlite.Value).IsNil", "internal/reflectlite.TypeOf", "(internal/reflectlite.Value).Elem", "(internal/reflectlite.Value).Set"], unfollowed := true, recurses := true, named := ["gitlike/deflate.lengthStart", "gitlike/deflate.lengthBits", "gitlike/deflate.distanceStart", "gitlike/deflate.distanceBits", "gitlike/deflate.thirdOrder", "errors.errorType"], apart := false, laid := [("errors.errorType", laid_errors_errorType), ("gitlike/deflate.lengthStart", laid_gitlike_deflate_lengthStart), ("gitlike/deflate.lengthBits", laid_gitlike_deflate_lengthBits), ("gitlike/deflate.distanceStart", laid_gitlike_deflate_distanceStart), ("gitlike/deflate.distanceBits", laid_gitlike_deflate_distanceBits), ("gitlike/deflate.thirdOrder", laid_gitlike_deflate_thirdOrder)], narrowed := true }
def DeflateShortUptoSaid : Prop := deflateShortUptoRow.holds Tryd.pinned (OpenSpec.upto deflateShortSpec)

end Rows
end Go.Proofs.YtbiibhpknflagaaDoor
