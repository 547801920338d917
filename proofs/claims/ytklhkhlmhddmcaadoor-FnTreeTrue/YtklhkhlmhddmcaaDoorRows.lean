/-
  NARROWER THAN 'FOR EVERY INPUT', by the rows' own cells (each row's printed sentence says how): FnLeafTrue: laid · FnGrowTrue: laid · FnTreeTrue: laid · FnExactLeafClash: laid · FnExactGrowClash: laid · FnExactTreeClash: laid · FnExactPieceSums: laid · FnExactPieceClash: laid.
  DERIVED. THE GIVEN ROWS OF THIS SEAT. 8 by the template 'for every input the law returns true; each argument reads behind the call as it read before'; 0 by the template 'total and deterministic' (their statements: YtklhkhlmhddmcaaDoorTotals.lean).
  GIVEN WITH THE SEED: the statements are not yours to turn. If you find one false, say at which input.
  Laid BY PROGRAM, IN A SANDBOX (cutbox-rows.mjs): the forced cells as the released guide's own fill.sh prints them over the translation 9d0e470fe754bc6c… (all of the seat's roots in one cut). By AI agents, Wed Nov 11 2026. No macro, syntax, notation, axiom, sorry.
-/
import Derived.Test.YtklhkhlmhddmcaaDoorChecked
import GoSem.Claim
import GoSem.ClaimJoined
import GoSem.ClaimMapViews
import Derived.JoinedTies
import Derived.KernelRfl
namespace Go.Proofs.YtklhkhlmhddmcaaDoor
/- THE CELL 'sum', in the pinned program and in every row, IS THE sha256 OF THE DUMP (.gsa) THAT YtklhkhlmhddmcaaDoorProg.lean LOADS. Nothing in Lean hashes anything: it is a label: what it is worth is what the hold of that sum in a sandbox is worth. -/
noncomputable def Tryd.pinned : Pinned := { name := "ytklhkhlmhddmcaadoor", sum := "9d0e470fe754bc6c5bfbfcf4787a6b1a3a0d9c2c01bb7bc13aff3d151dc8285b", checked := Tryd.checked }
namespace Rows
def none {H : Type} : Left H := { results := [], args := [] }

/- WHAT THE LISTED PACKAGE-LEVEL VARIABLES READ AS WHEN THE CALL BEGINS. Each datum BY PROGRAM (the guide's laid-datum.mjs) off the statement by which the dump's own 'gosem.cut.vars' lays the variable. In a bare row this is a premise. The card (YtklhkhlmhddmcaaDoorCards.lean) ties it to the program's text. -/
def laid_loop_example_g00565_impl_pieceStarts {H : Type} : DataW H := .agg [.lit (.int .u8 0), .lit (.int .u8 1), .lit (.int .u8 2), .lit (.int .u8 3), .lit (.int .u8 4), .lit (.int .u8 5)]

/-- 'laws.FnLeafTrue': WHATEVER THE INPUT: true; the input reads as it did. -/
def fnLeafTrueSpec : ChangeSpec := { name := "fnLeafTrue", vars := ["loop.example/g00565/impl.pieceStarts"], fn := fun _ => fun
  | [d, g1] => { results := [.lit (.bool true)], args := [d], vars := [g1] }
  | _ => none }
def fnLeafTrueRow : OpenClaim := { program := "ytklhkhlmhddmcaadoor", sum := "9d0e470fe754bc6c5bfbfcf4787a6b1a3a0d9c2c01bb7bc13aff3d151dc8285b", func := "loop.example/g00565/laws.FnLeafTrue", spec := "fnLeafTrue", unfollowed := true, recurses := true, named := ["loop.example/g00565/impl.pieceStarts"], apart := false, laid := [("loop.example/g00565/impl.pieceStarts", laid_loop_example_g00565_impl_pieceStarts)] }
def FnLeafTrueSaid : Prop := fnLeafTrueRow.holds Tryd.pinned (OpenSpec.ofChange fnLeafTrueSpec)

/-- ITS FALSE NEIGHBOUR: 'it returns false'. Refute it at one input. -/
def fnLeafTrueWrong : ChangeSpec := { name := "fnLeafTrue", vars := ["loop.example/g00565/impl.pieceStarts"], fn := fun _ => fun
  | [d, g1] => { results := [.lit (.bool false)], args := [d], vars := [g1] }
  | _ => none }
def FnLeafTrueWrongFalsely : Prop := fnLeafTrueRow.holds Tryd.pinned (OpenSpec.ofChange fnLeafTrueWrong)

/-- 'laws.FnGrowTrue': WHATEVER THE INPUT: true; the input reads as it did. -/
def fnGrowTrueSpec : ChangeSpec := { name := "fnGrowTrue", vars := ["loop.example/g00565/impl.pieceStarts"], fn := fun _ => fun
  | [d, g1] => { results := [.lit (.bool true)], args := [d], vars := [g1] }
  | _ => none }
def fnGrowTrueRow : OpenClaim := { program := "ytklhkhlmhddmcaadoor", sum := "9d0e470fe754bc6c5bfbfcf4787a6b1a3a0d9c2c01bb7bc13aff3d151dc8285b", func := "loop.example/g00565/laws.FnGrowTrue", spec := "fnGrowTrue", unfollowed := true, recurses := true, named := ["loop.example/g00565/impl.pieceStarts"], apart := false, laid := [("loop.example/g00565/impl.pieceStarts", laid_loop_example_g00565_impl_pieceStarts)] }
def FnGrowTrueSaid : Prop := fnGrowTrueRow.holds Tryd.pinned (OpenSpec.ofChange fnGrowTrueSpec)

/-- ITS FALSE NEIGHBOUR: 'it returns false'. Refute it at one input. -/
def fnGrowTrueWrong : ChangeSpec := { name := "fnGrowTrue", vars := ["loop.example/g00565/impl.pieceStarts"], fn := fun _ => fun
  | [d, g1] => { results := [.lit (.bool false)], args := [d], vars := [g1] }
  | _ => none }
def FnGrowTrueWrongFalsely : Prop := fnGrowTrueRow.holds Tryd.pinned (OpenSpec.ofChange fnGrowTrueWrong)

/-- 'laws.FnTreeTrue': WHATEVER THE INPUT: true; the input reads as it did. -/
def fnTreeTrueSpec : ChangeSpec := { name := "fnTreeTrue", vars := ["loop.example/g00565/impl.pieceStarts"], fn := fun _ => fun
  | [d, g1] => { results := [.lit (.bool true)], args := [d], vars := [g1] }
  | _ => none }
def fnTreeTrueRow : OpenClaim := { program := "ytklhkhlmhddmcaadoor", sum := "9d0e470fe754bc6c5bfbfcf4787a6b1a3a0d9c2c01bb7bc13aff3d151dc8285b", func := "loop.example/g00565/laws.FnTreeTrue", spec := "fnTreeTrue", unfollowed := true, recurses := true, named := ["loop.example/g00565/impl.pieceStarts"], apart := false, laid := [("loop.example/g00565/impl.pieceStarts", laid_loop_example_g00565_impl_pieceStarts)] }
def FnTreeTrueSaid : Prop := fnTreeTrueRow.holds Tryd.pinned (OpenSpec.ofChange fnTreeTrueSpec)

/-- ITS FALSE NEIGHBOUR: 'it returns false'. Refute it at one input. -/
def fnTreeTrueWrong : ChangeSpec := { name := "fnTreeTrue", vars := ["loop.example/g00565/impl.pieceStarts"], fn := fun _ => fun
  | [d, g1] => { results := [.lit (.bool false)], args := [d], vars := [g1] }
  | _ => none }
def FnTreeTrueWrongFalsely : Prop := fnTreeTrueRow.holds Tryd.pinned (OpenSpec.ofChange fnTreeTrueWrong)

/-- 'laws.FnExactLeafClash': WHATEVER THE INPUT: true; the input reads as it did. -/
def fnExactLeafClashSpec : ChangeSpec := { name := "fnExactLeafClash", vars := ["loop.example/g00565/impl.pieceStarts"], fn := fun _ => fun
  | [d1, d2, d3, d4, g1] => { results := [.lit (.bool true)], args := [d1, d2, d3, d4], vars := [g1] }
  | _ => none }
def fnExactLeafClashRow : OpenClaim := { program := "ytklhkhlmhddmcaadoor", sum := "9d0e470fe754bc6c5bfbfcf4787a6b1a3a0d9c2c01bb7bc13aff3d151dc8285b", func := "loop.example/g00565/laws.FnExactLeafClash", spec := "fnExactLeafClash", unfollowed := true, recurses := true, named := ["loop.example/g00565/impl.pieceStarts"], apart := false, laid := [("loop.example/g00565/impl.pieceStarts", laid_loop_example_g00565_impl_pieceStarts)] }
def FnExactLeafClashSaid : Prop := fnExactLeafClashRow.holds Tryd.pinned (OpenSpec.ofChange fnExactLeafClashSpec)

/-- ITS FALSE NEIGHBOUR: 'it returns false'. Refute it at one input. -/
def fnExactLeafClashWrong : ChangeSpec := { name := "fnExactLeafClash", vars := ["loop.example/g00565/impl.pieceStarts"], fn := fun _ => fun
  | [d1, d2, d3, d4, g1] => { results := [.lit (.bool false)], args := [d1, d2, d3, d4], vars := [g1] }
  | _ => none }
def FnExactLeafClashWrongFalsely : Prop := fnExactLeafClashRow.holds Tryd.pinned (OpenSpec.ofChange fnExactLeafClashWrong)

/-- 'laws.FnExactGrowClash': WHATEVER THE INPUT: true; the input reads as it did. -/
def fnExactGrowClashSpec : ChangeSpec := { name := "fnExactGrowClash", vars := ["loop.example/g00565/impl.pieceStarts"], fn := fun _ => fun
  | [d1, d2, d3, g1] => { results := [.lit (.bool true)], args := [d1, d2, d3], vars := [g1] }
  | _ => none }
def fnExactGrowClashRow : OpenClaim := { program := "ytklhkhlmhddmcaadoor", sum := "9d0e470fe754bc6c5bfbfcf4787a6b1a3a0d9c2c01bb7bc13aff3d151dc8285b", func := "loop.example/g00565/laws.FnExactGrowClash", spec := "fnExactGrowClash", unfollowed := true, recurses := true, named := ["loop.example/g00565/impl.pieceStarts"], apart := false, laid := [("loop.example/g00565/impl.pieceStarts", laid_loop_example_g00565_impl_pieceStarts)] }
def FnExactGrowClashSaid : Prop := fnExactGrowClashRow.holds Tryd.pinned (OpenSpec.ofChange fnExactGrowClashSpec)

/-- ITS FALSE NEIGHBOUR: 'it returns false'. Refute it at one input. -/
def fnExactGrowClashWrong : ChangeSpec := { name := "fnExactGrowClash", vars := ["loop.example/g00565/impl.pieceStarts"], fn := fun _ => fun
  | [d1, d2, d3, g1] => { results := [.lit (.bool false)], args := [d1, d2, d3], vars := [g1] }
  | _ => none }
def FnExactGrowClashWrongFalsely : Prop := fnExactGrowClashRow.holds Tryd.pinned (OpenSpec.ofChange fnExactGrowClashWrong)

/-- 'laws.FnExactTreeClash': WHATEVER THE INPUT: true; the input reads as it did. -/
def fnExactTreeClashSpec : ChangeSpec := { name := "fnExactTreeClash", vars := ["loop.example/g00565/impl.pieceStarts"], fn := fun _ => fun
  | [d1, d2, g1] => { results := [.lit (.bool true)], args := [d1, d2], vars := [g1] }
  | _ => none }
def fnExactTreeClashRow : OpenClaim := { program := "ytklhkhlmhddmcaadoor", sum := "9d0e470fe754bc6c5bfbfcf4787a6b1a3a0d9c2c01bb7bc13aff3d151dc8285b", func := "loop.example/g00565/laws.FnExactTreeClash", spec := "fnExactTreeClash", unfollowed := true, recurses := true, named := ["loop.example/g00565/impl.pieceStarts"], apart := false, laid := [("loop.example/g00565/impl.pieceStarts", laid_loop_example_g00565_impl_pieceStarts)] }
def FnExactTreeClashSaid : Prop := fnExactTreeClashRow.holds Tryd.pinned (OpenSpec.ofChange fnExactTreeClashSpec)

/-- ITS FALSE NEIGHBOUR: 'it returns false'. Refute it at one input. -/
def fnExactTreeClashWrong : ChangeSpec := { name := "fnExactTreeClash", vars := ["loop.example/g00565/impl.pieceStarts"], fn := fun _ => fun
  | [d1, d2, g1] => { results := [.lit (.bool false)], args := [d1, d2], vars := [g1] }
  | _ => none }
def FnExactTreeClashWrongFalsely : Prop := fnExactTreeClashRow.holds Tryd.pinned (OpenSpec.ofChange fnExactTreeClashWrong)

/-- 'laws.FnExactPieceSums': WHATEVER THE INPUT: true; the input reads as it did. -/
def fnExactPieceSumsSpec : ChangeSpec := { name := "fnExactPieceSums", vars := ["loop.example/g00565/impl.pieceStarts"], fn := fun _ => fun
  | [d, g1] => { results := [.lit (.bool true)], args := [d], vars := [g1] }
  | _ => none }
def fnExactPieceSumsRow : OpenClaim := { program := "ytklhkhlmhddmcaadoor", sum := "9d0e470fe754bc6c5bfbfcf4787a6b1a3a0d9c2c01bb7bc13aff3d151dc8285b", func := "loop.example/g00565/laws.FnExactPieceSums", spec := "fnExactPieceSums", named := ["loop.example/g00565/impl.pieceStarts"], apart := false, laid := [("loop.example/g00565/impl.pieceStarts", laid_loop_example_g00565_impl_pieceStarts)] }
def FnExactPieceSumsSaid : Prop := fnExactPieceSumsRow.holds Tryd.pinned (OpenSpec.ofChange fnExactPieceSumsSpec)

/-- ITS FALSE NEIGHBOUR: 'it returns false'. Refute it at one input. -/
def fnExactPieceSumsWrong : ChangeSpec := { name := "fnExactPieceSums", vars := ["loop.example/g00565/impl.pieceStarts"], fn := fun _ => fun
  | [d, g1] => { results := [.lit (.bool false)], args := [d], vars := [g1] }
  | _ => none }
def FnExactPieceSumsWrongFalsely : Prop := fnExactPieceSumsRow.holds Tryd.pinned (OpenSpec.ofChange fnExactPieceSumsWrong)

/-- 'laws.FnExactPieceClash': WHATEVER THE INPUT: true; the input reads as it did. -/
def fnExactPieceClashSpec : ChangeSpec := { name := "fnExactPieceClash", vars := ["loop.example/g00565/impl.pieceStarts"], fn := fun _ => fun
  | [d1, d2, g1] => { results := [.lit (.bool true)], args := [d1, d2], vars := [g1] }
  | _ => none }
def fnExactPieceClashRow : OpenClaim := { program := "ytklhkhlmhddmcaadoor", sum := "9d0e470fe754bc6c5bfbfcf4787a6b1a3a0d9c2c01bb7bc13aff3d151dc8285b", func := "loop.example/g00565/laws.FnExactPieceClash", spec := "fnExactPieceClash", unfollowed := true, recurses := true, named := ["loop.example/g00565/impl.pieceStarts"], apart := false, laid := [("loop.example/g00565/impl.pieceStarts", laid_loop_example_g00565_impl_pieceStarts)] }
def FnExactPieceClashSaid : Prop := fnExactPieceClashRow.holds Tryd.pinned (OpenSpec.ofChange fnExactPieceClashSpec)

/-- ITS FALSE NEIGHBOUR: 'it returns false'. Refute it at one input. -/
def fnExactPieceClashWrong : ChangeSpec := { name := "fnExactPieceClash", vars := ["loop.example/g00565/impl.pieceStarts"], fn := fun _ => fun
  | [d1, d2, g1] => { results := [.lit (.bool false)], args := [d1, d2], vars := [g1] }
  | _ => none }
def FnExactPieceClashWrongFalsely : Prop := fnExactPieceClashRow.holds Tryd.pinned (OpenSpec.ofChange fnExactPieceClashWrong)

/- THE SECOND FORM. 'bulk': how many values and letters a reading holds, each counted each time it is reached (what is shared counts as often as it is met; a slice's spare places count too). A statement '..UptoSaid' is the law's where the arguments, and the package variables that the reading takes, are together of bulk at most 1048576: NARROWER than '..Said'. Prove '..Said' where nothing that the law and all that it calls make is longer than what came in: it says more and counts as full. Else prove '..UptoSaid'. A law counts once. -/
mutual
def uptoBulk {H : Type} : DataW H → Nat
  | .lit (.string bytes) => bytes.length + 1
  | .lit _ => 1
  | .nil => 1
  | .ptr d => uptoBulk d + 1
  | .slice elems spare => uptoBulkAll elems + uptoBulkAll spare + 1
  | .agg parts => uptoBulkAll parts + 1
  | .iface _ d => uptoBulk d + 1
  | .map entries => uptoBulkEntries entries + 1
  | .held _ => 1
def uptoBulkAll {H : Type} : List (DataW H) → Nat
  | [] => 0
  | d :: r => uptoBulk d + uptoBulkAll r
def uptoBulkEntries {H : Type} : List (Lit × DataW H) → Nat
  | [] => 0
  | x :: r => uptoBulkEntry x + uptoBulkEntries r
def uptoBulkEntry {H : Type} : Lit × DataW H → Nat
  | (.string bytes, d) => bytes.length + uptoBulk d + 1
  | (_, d) => uptoBulk d + 1
 end
def uptoSmall : (H : Type) → List (DataW H) → Bool := fun _ ds => decide (uptoBulkAll ds ≤ 1048576)
def OpenSpec.upto (s : _root_.Go.ChangeSpec) : _root_.Go.OpenSpec := { _root_.Go.OpenSpec.ofChange s with cond := some uptoSmall }

/-- 'laws.FnLeafTrue', WHERE WHAT IT READS IS OF BULK AT MOST 1048576: true; the input reads as it did. -/
def fnLeafTrueUptoRow : OpenClaim := { program := "ytklhkhlmhddmcaadoor", sum := "9d0e470fe754bc6c5bfbfcf4787a6b1a3a0d9c2c01bb7bc13aff3d151dc8285b", func := "loop.example/g00565/laws.FnLeafTrue", spec := "fnLeafTrue", unfollowed := true, recurses := true, named := ["loop.example/g00565/impl.pieceStarts"], apart := false, laid := [("loop.example/g00565/impl.pieceStarts", laid_loop_example_g00565_impl_pieceStarts)], narrowed := true }
def FnLeafTrueUptoSaid : Prop := fnLeafTrueUptoRow.holds Tryd.pinned (OpenSpec.upto fnLeafTrueSpec)

/-- 'laws.FnGrowTrue', WHERE WHAT IT READS IS OF BULK AT MOST 1048576: true; the input reads as it did. -/
def fnGrowTrueUptoRow : OpenClaim := { program := "ytklhkhlmhddmcaadoor", sum := "9d0e470fe754bc6c5bfbfcf4787a6b1a3a0d9c2c01bb7bc13aff3d151dc8285b", func := "loop.example/g00565/laws.FnGrowTrue", spec := "fnGrowTrue", unfollowed := true, recurses := true, named := ["loop.example/g00565/impl.pieceStarts"], apart := false, laid := [("loop.example/g00565/impl.pieceStarts", laid_loop_example_g00565_impl_pieceStarts)], narrowed := true }
def FnGrowTrueUptoSaid : Prop := fnGrowTrueUptoRow.holds Tryd.pinned (OpenSpec.upto fnGrowTrueSpec)

/-- 'laws.FnTreeTrue', WHERE WHAT IT READS IS OF BULK AT MOST 1048576: true; the input reads as it did. -/
def fnTreeTrueUptoRow : OpenClaim := { program := "ytklhkhlmhddmcaadoor", sum := "9d0e470fe754bc6c5bfbfcf4787a6b1a3a0d9c2c01bb7bc13aff3d151dc8285b", func := "loop.example/g00565/laws.FnTreeTrue", spec := "fnTreeTrue", unfollowed := true, recurses := true, named := ["loop.example/g00565/impl.pieceStarts"], apart := false, laid := [("loop.example/g00565/impl.pieceStarts", laid_loop_example_g00565_impl_pieceStarts)], narrowed := true }
def FnTreeTrueUptoSaid : Prop := fnTreeTrueUptoRow.holds Tryd.pinned (OpenSpec.upto fnTreeTrueSpec)

/-- 'laws.FnExactLeafClash', WHERE WHAT IT READS IS OF BULK AT MOST 1048576: true; the input reads as it did. -/
def fnExactLeafClashUptoRow : OpenClaim := { program := "ytklhkhlmhddmcaadoor", sum := "9d0e470fe754bc6c5bfbfcf4787a6b1a3a0d9c2c01bb7bc13aff3d151dc8285b", func := "loop.example/g00565/laws.FnExactLeafClash", spec := "fnExactLeafClash", unfollowed := true, recurses := true, named := ["loop.example/g00565/impl.pieceStarts"], apart := false, laid := [("loop.example/g00565/impl.pieceStarts", laid_loop_example_g00565_impl_pieceStarts)], narrowed := true }
def FnExactLeafClashUptoSaid : Prop := fnExactLeafClashUptoRow.holds Tryd.pinned (OpenSpec.upto fnExactLeafClashSpec)

/-- 'laws.FnExactGrowClash', WHERE WHAT IT READS IS OF BULK AT MOST 1048576: true; the input reads as it did. -/
def fnExactGrowClashUptoRow : OpenClaim := { program := "ytklhkhlmhddmcaadoor", sum := "9d0e470fe754bc6c5bfbfcf4787a6b1a3a0d9c2c01bb7bc13aff3d151dc8285b", func := "loop.example/g00565/laws.FnExactGrowClash", spec := "fnExactGrowClash", unfollowed := true, recurses := true, named := ["loop.example/g00565/impl.pieceStarts"], apart := false, laid := [("loop.example/g00565/impl.pieceStarts", laid_loop_example_g00565_impl_pieceStarts)], narrowed := true }
def FnExactGrowClashUptoSaid : Prop := fnExactGrowClashUptoRow.holds Tryd.pinned (OpenSpec.upto fnExactGrowClashSpec)

/-- 'laws.FnExactTreeClash', WHERE WHAT IT READS IS OF BULK AT MOST 1048576: true; the input reads as it did. -/
def fnExactTreeClashUptoRow : OpenClaim := { program := "ytklhkhlmhddmcaadoor", sum := "9d0e470fe754bc6c5bfbfcf4787a6b1a3a0d9c2c01bb7bc13aff3d151dc8285b", func := "loop.example/g00565/laws.FnExactTreeClash", spec := "fnExactTreeClash", unfollowed := true, recurses := true, named := ["loop.example/g00565/impl.pieceStarts"], apart := false, laid := [("loop.example/g00565/impl.pieceStarts", laid_loop_example_g00565_impl_pieceStarts)], narrowed := true }
def FnExactTreeClashUptoSaid : Prop := fnExactTreeClashUptoRow.holds Tryd.pinned (OpenSpec.upto fnExactTreeClashSpec)

/-- 'laws.FnExactPieceSums', WHERE WHAT IT READS IS OF BULK AT MOST 1048576: true; the input reads as it did. -/
def fnExactPieceSumsUptoRow : OpenClaim := { program := "ytklhkhlmhddmcaadoor", sum := "9d0e470fe754bc6c5bfbfcf4787a6b1a3a0d9c2c01bb7bc13aff3d151dc8285b", func := "loop.example/g00565/laws.FnExactPieceSums", spec := "fnExactPieceSums", named := ["loop.example/g00565/impl.pieceStarts"], apart := false, laid := [("loop.example/g00565/impl.pieceStarts", laid_loop_example_g00565_impl_pieceStarts)], narrowed := true }
def FnExactPieceSumsUptoSaid : Prop := fnExactPieceSumsUptoRow.holds Tryd.pinned (OpenSpec.upto fnExactPieceSumsSpec)

/-- 'laws.FnExactPieceClash', WHERE WHAT IT READS IS OF BULK AT MOST 1048576: true; the input reads as it did. -/
def fnExactPieceClashUptoRow : OpenClaim := { program := "ytklhkhlmhddmcaadoor", sum := "9d0e470fe754bc6c5bfbfcf4787a6b1a3a0d9c2c01bb7bc13aff3d151dc8285b", func := "loop.example/g00565/laws.FnExactPieceClash", spec := "fnExactPieceClash", unfollowed := true, recurses := true, named := ["loop.example/g00565/impl.pieceStarts"], apart := false, laid := [("loop.example/g00565/impl.pieceStarts", laid_loop_example_g00565_impl_pieceStarts)], narrowed := true }
def FnExactPieceClashUptoSaid : Prop := fnExactPieceClashUptoRow.holds Tryd.pinned (OpenSpec.upto fnExactPieceClashSpec)

end Rows
end Go.Proofs.YtklhkhlmhddmcaaDoor
