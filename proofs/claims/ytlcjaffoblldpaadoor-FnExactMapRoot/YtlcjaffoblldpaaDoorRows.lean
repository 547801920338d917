/-
  NARROWER THAN 'FOR EVERY INPUT', by the rows' own cells (each row's printed sentence says how): FnClashes: laid · FnMaps: laid · FnMapTrue: laid · FnExactSlotSum: laid · FnExactMapRoot: laid.
  DERIVED. THE GIVEN ROWS OF THIS SEAT. 5 by the template 'for every input the law returns true; each argument reads behind the call as it read before'; 0 by the template 'total and deterministic' (their statements: YtlcjaffoblldpaaDoorTotals.lean).
  GIVEN WITH THE SEED: the statements are not yours to turn. If you find one false, say at which input.
  Laid BY PROGRAM, IN A SANDBOX (cutbox-rows.mjs): the forced cells as the released guide's own fill.sh prints them over the translation 98aab3741d579054… (all of the seat's roots in one cut). By AI agents, Wed Nov 11 2026. No macro, syntax, notation, axiom, sorry.
-/
import Derived.Test.YtlcjaffoblldpaaDoorChecked
import GoSem.Claim
import GoSem.ClaimJoined
import GoSem.ClaimMapViews
import Derived.JoinedTies
import Derived.KernelRfl
namespace Go.Proofs.YtlcjaffoblldpaaDoor
/- THE CELL 'sum', in the pinned program and in every row, IS THE sha256 OF THE DUMP (.gsa) THAT YtlcjaffoblldpaaDoorProg.lean LOADS. Nothing in Lean hashes anything: it is a label: what it is worth is what the hold of that sum in a sandbox is worth. -/
noncomputable def Tryd.pinned : Pinned := { name := "ytlcjaffoblldpaadoor", sum := "98aab3741d57905426d67fa9e51a962afdc27dc9d8a84f3d31a6a9fe086335d1", checked := Tryd.checked }
namespace Rows
def none {H : Type} : Left H := { results := [], args := [] }

/- WHAT THE LISTED PACKAGE-LEVEL VARIABLES READ AS WHEN THE CALL BEGINS. Each datum BY PROGRAM (the guide's laid-datum.mjs) off the statement by which the dump's own 'gosem.cut.vars' lays the variable. In a bare row this is a premise. The card (YtlcjaffoblldpaaDoorCards.lean) ties it to the program's text. -/
def laid_loop_example_g00565_impl_pieceStarts {H : Type} : DataW H := .agg [.lit (.int .u8 0), .lit (.int .u8 1), .lit (.int .u8 2)]

/-- 'laws.FnClashes': WHATEVER THE INPUT: true; the input reads as it did. -/
def fnClashesSpec : ChangeSpec := { name := "fnClashes", vars := ["loop.example/g00565/impl.pieceStarts"], fn := fun _ => fun
  | [d, g1] => { results := [.lit (.bool true)], args := [d], vars := [g1] }
  | _ => none }
def fnClashesRow : OpenClaim := { program := "ytlcjaffoblldpaadoor", sum := "98aab3741d57905426d67fa9e51a962afdc27dc9d8a84f3d31a6a9fe086335d1", func := "loop.example/g00565/laws.FnClashes", spec := "fnClashes", named := ["loop.example/g00565/impl.pieceStarts"], apart := false, laid := [("loop.example/g00565/impl.pieceStarts", laid_loop_example_g00565_impl_pieceStarts)] }
def FnClashesSaid : Prop := fnClashesRow.holds Tryd.pinned (OpenSpec.ofChange fnClashesSpec)

/-- ITS FALSE NEIGHBOUR: 'it returns false'. Refute it at one input. -/
def fnClashesWrong : ChangeSpec := { name := "fnClashes", vars := ["loop.example/g00565/impl.pieceStarts"], fn := fun _ => fun
  | [d, g1] => { results := [.lit (.bool false)], args := [d], vars := [g1] }
  | _ => none }
def FnClashesWrongFalsely : Prop := fnClashesRow.holds Tryd.pinned (OpenSpec.ofChange fnClashesWrong)

/-- 'laws.FnMaps': WHATEVER THE INPUT: true; the input reads as it did. -/
def fnMapsSpec : ChangeSpec := { name := "fnMaps", vars := ["loop.example/g00565/impl.pieceStarts"], fn := fun _ => fun
  | [d, g1] => { results := [.lit (.bool true)], args := [d], vars := [g1] }
  | _ => none }
def fnMapsRow : OpenClaim := { program := "ytlcjaffoblldpaadoor", sum := "98aab3741d57905426d67fa9e51a962afdc27dc9d8a84f3d31a6a9fe086335d1", func := "loop.example/g00565/laws.FnMaps", spec := "fnMaps", unfollowed := true, recurses := true, named := ["loop.example/g00565/impl.pieceStarts"], apart := false, laid := [("loop.example/g00565/impl.pieceStarts", laid_loop_example_g00565_impl_pieceStarts)] }
def FnMapsSaid : Prop := fnMapsRow.holds Tryd.pinned (OpenSpec.ofChange fnMapsSpec)

/-- ITS FALSE NEIGHBOUR: 'it returns false'. Refute it at one input. -/
def fnMapsWrong : ChangeSpec := { name := "fnMaps", vars := ["loop.example/g00565/impl.pieceStarts"], fn := fun _ => fun
  | [d, g1] => { results := [.lit (.bool false)], args := [d], vars := [g1] }
  | _ => none }
def FnMapsWrongFalsely : Prop := fnMapsRow.holds Tryd.pinned (OpenSpec.ofChange fnMapsWrong)

/-- 'laws.FnMapTrue': WHATEVER THE INPUT: true; the input reads as it did. -/
def fnMapTrueSpec : ChangeSpec := { name := "fnMapTrue", vars := ["loop.example/g00565/impl.pieceStarts"], fn := fun _ => fun
  | [d, g1] => { results := [.lit (.bool true)], args := [d], vars := [g1] }
  | _ => none }
def fnMapTrueRow : OpenClaim := { program := "ytlcjaffoblldpaadoor", sum := "98aab3741d57905426d67fa9e51a962afdc27dc9d8a84f3d31a6a9fe086335d1", func := "loop.example/g00565/laws.FnMapTrue", spec := "fnMapTrue", unfollowed := true, recurses := true, named := ["loop.example/g00565/impl.pieceStarts"], apart := false, laid := [("loop.example/g00565/impl.pieceStarts", laid_loop_example_g00565_impl_pieceStarts)] }
def FnMapTrueSaid : Prop := fnMapTrueRow.holds Tryd.pinned (OpenSpec.ofChange fnMapTrueSpec)

/-- ITS FALSE NEIGHBOUR: 'it returns false'. Refute it at one input. -/
def fnMapTrueWrong : ChangeSpec := { name := "fnMapTrue", vars := ["loop.example/g00565/impl.pieceStarts"], fn := fun _ => fun
  | [d, g1] => { results := [.lit (.bool false)], args := [d], vars := [g1] }
  | _ => none }
def FnMapTrueWrongFalsely : Prop := fnMapTrueRow.holds Tryd.pinned (OpenSpec.ofChange fnMapTrueWrong)

/-- 'laws.FnExactSlotSum': WHATEVER THE INPUT: true; the input reads as it did. -/
def fnExactSlotSumSpec : ChangeSpec := { name := "fnExactSlotSum", vars := ["loop.example/g00565/impl.pieceStarts"], fn := fun _ => fun
  | [d1, d2, g1] => { results := [.lit (.bool true)], args := [d1, d2], vars := [g1] }
  | _ => none }
def fnExactSlotSumRow : OpenClaim := { program := "ytlcjaffoblldpaadoor", sum := "98aab3741d57905426d67fa9e51a962afdc27dc9d8a84f3d31a6a9fe086335d1", func := "loop.example/g00565/laws.FnExactSlotSum", spec := "fnExactSlotSum", named := ["loop.example/g00565/impl.pieceStarts"], apart := false, laid := [("loop.example/g00565/impl.pieceStarts", laid_loop_example_g00565_impl_pieceStarts)] }
def FnExactSlotSumSaid : Prop := fnExactSlotSumRow.holds Tryd.pinned (OpenSpec.ofChange fnExactSlotSumSpec)

/-- ITS FALSE NEIGHBOUR: 'it returns false'. Refute it at one input. -/
def fnExactSlotSumWrong : ChangeSpec := { name := "fnExactSlotSum", vars := ["loop.example/g00565/impl.pieceStarts"], fn := fun _ => fun
  | [d1, d2, g1] => { results := [.lit (.bool false)], args := [d1, d2], vars := [g1] }
  | _ => none }
def FnExactSlotSumWrongFalsely : Prop := fnExactSlotSumRow.holds Tryd.pinned (OpenSpec.ofChange fnExactSlotSumWrong)

/-- 'laws.FnExactMapRoot': WHATEVER THE INPUT: true; the input reads as it did. -/
def fnExactMapRootSpec : ChangeSpec := { name := "fnExactMapRoot", vars := ["loop.example/g00565/impl.pieceStarts"], fn := fun _ => fun
  | [d, g1] => { results := [.lit (.bool true)], args := [d], vars := [g1] }
  | _ => none }
def fnExactMapRootRow : OpenClaim := { program := "ytlcjaffoblldpaadoor", sum := "98aab3741d57905426d67fa9e51a962afdc27dc9d8a84f3d31a6a9fe086335d1", func := "loop.example/g00565/laws.FnExactMapRoot", spec := "fnExactMapRoot", unfollowed := true, recurses := true, named := ["loop.example/g00565/impl.pieceStarts"], apart := false, laid := [("loop.example/g00565/impl.pieceStarts", laid_loop_example_g00565_impl_pieceStarts)] }
def FnExactMapRootSaid : Prop := fnExactMapRootRow.holds Tryd.pinned (OpenSpec.ofChange fnExactMapRootSpec)

/-- ITS FALSE NEIGHBOUR: 'it returns false'. Refute it at one input. -/
def fnExactMapRootWrong : ChangeSpec := { name := "fnExactMapRoot", vars := ["loop.example/g00565/impl.pieceStarts"], fn := fun _ => fun
  | [d, g1] => { results := [.lit (.bool false)], args := [d], vars := [g1] }
  | _ => none }
def FnExactMapRootWrongFalsely : Prop := fnExactMapRootRow.holds Tryd.pinned (OpenSpec.ofChange fnExactMapRootWrong)

/- THE SECOND FORM. 'bulk': how many values and letters a reading holds, each counted each time it is reached (what is shared counts as often as it is met; a slice's spare places count too). A statement '..UptoSaid' is the law's where the arguments, and the package variables that the reading takes, are together of bulk at most 1048576: NARROWER than '..Said'. Prove '..Said' where nothing that the law and all that it calls make is longer than what came in: it says more and counts as full. Else prove '..UptoSaid'. A law counts once. -/
mutual
def uptoBulk {H : Type} : DataW H → Nat
  | .lit (.string bytes) => bytes.length + 1
  | .lit _ => 1
  | .nil => 1
  | .ptr d => uptoBulk d + 1
  | .slice elems spare => uptoBulkAll elems + uptoBulkAll spare + 1
  | .agg parts => uptoBulkAll parts + 1
  | .iface _ d => uptoBulk d + 1
  | .map entries => uptoBulkEntries entries + 1
  | .held _ => 1
def uptoBulkAll {H : Type} : List (DataW H) → Nat
  | [] => 0
  | d :: r => uptoBulk d + uptoBulkAll r
def uptoBulkEntries {H : Type} : List (Lit × DataW H) → Nat
  | [] => 0
  | x :: r => uptoBulkEntry x + uptoBulkEntries r
def uptoBulkEntry {H : Type} : Lit × DataW H → Nat
  | (.string bytes, d) => bytes.length + uptoBulk d + 1
  | (_, d) => uptoBulk d + 1
 end
def uptoSmall : (H : Type) → List (DataW H) → Bool := fun _ ds => decide (uptoBulkAll ds ≤ 1048576)
def OpenSpec.upto (s : _root_.Go.ChangeSpec) : _root_.Go.OpenSpec := { _root_.Go.OpenSpec.ofChange s with cond := some uptoSmall }

/-- 'laws.FnClashes', WHERE WHAT IT READS IS OF BULK AT MOST 1048576: true; the input reads as it did. -/
def fnClashesUptoRow : OpenClaim := { program := "ytlcjaffoblldpaadoor", sum := "98aab3741d57905426d67fa9e51a962afdc27dc9d8a84f3d31a6a9fe086335d1", func := "loop.example/g00565/laws.FnClashes", spec := "fnClashes", named := ["loop.example/g00565/impl.pieceStarts"], apart := false, laid := [("loop.example/g00565/impl.pieceStarts", laid_loop_example_g00565_impl_pieceStarts)], narrowed := true }
def FnClashesUptoSaid : Prop := fnClashesUptoRow.holds Tryd.pinned (OpenSpec.upto fnClashesSpec)

/-- 'laws.FnMaps', WHERE WHAT IT READS IS OF BULK AT MOST 1048576: true; the input reads as it did. -/
def fnMapsUptoRow : OpenClaim := { program := "ytlcjaffoblldpaadoor", sum := "98aab3741d57905426d67fa9e51a962afdc27dc9d8a84f3d31a6a9fe086335d1", func := "loop.example/g00565/laws.FnMaps", spec := "fnMaps", unfollowed := true, recurses := true, named := ["loop.example/g00565/impl.pieceStarts"], apart := false, laid := [("loop.example/g00565/impl.pieceStarts", laid_loop_example_g00565_impl_pieceStarts)], narrowed := true }
def FnMapsUptoSaid : Prop := fnMapsUptoRow.holds Tryd.pinned (OpenSpec.upto fnMapsSpec)

/-- 'laws.FnMapTrue', WHERE WHAT IT READS IS OF BULK AT MOST 1048576: true; the input reads as it did. -/
def fnMapTrueUptoRow : OpenClaim := { program := "ytlcjaffoblldpaadoor", sum := "98aab3741d57905426d67fa9e51a962afdc27dc9d8a84f3d31a6a9fe086335d1", func := "loop.example/g00565/laws.FnMapTrue", spec := "fnMapTrue", unfollowed := true, recurses := true, named := ["loop.example/g00565/impl.pieceStarts"], apart := false, laid := [("loop.example/g00565/impl.pieceStarts", laid_loop_example_g00565_impl_pieceStarts)], narrowed := true }
def FnMapTrueUptoSaid : Prop := fnMapTrueUptoRow.holds Tryd.pinned (OpenSpec.upto fnMapTrueSpec)

/-- 'laws.FnExactSlotSum', WHERE WHAT IT READS IS OF BULK AT MOST 1048576: true; the input reads as it did. -/
def fnExactSlotSumUptoRow : OpenClaim := { program := "ytlcjaffoblldpaadoor", sum := "98aab3741d57905426d67fa9e51a962afdc27dc9d8a84f3d31a6a9fe086335d1", func := "loop.example/g00565/laws.FnExactSlotSum", spec := "fnExactSlotSum", named := ["loop.example/g00565/impl.pieceStarts"], apart := false, laid := [("loop.example/g00565/impl.pieceStarts", laid_loop_example_g00565_impl_pieceStarts)], narrowed := true }
def FnExactSlotSumUptoSaid : Prop := fnExactSlotSumUptoRow.holds Tryd.pinned (OpenSpec.upto fnExactSlotSumSpec)

/-- 'laws.FnExactMapRoot', WHERE WHAT IT READS IS OF BULK AT MOST 1048576: true; the input reads as it did. -/
def fnExactMapRootUptoRow : OpenClaim := { program := "ytlcjaffoblldpaadoor", sum := "98aab3741d57905426d67fa9e51a962afdc27dc9d8a84f3d31a6a9fe086335d1", func := "loop.example/g00565/laws.FnExactMapRoot", spec := "fnExactMapRoot", unfollowed := true, recurses := true, named := ["loop.example/g00565/impl.pieceStarts"], apart := false, laid := [("loop.example/g00565/impl.pieceStarts", laid_loop_example_g00565_impl_pieceStarts)], narrowed := true }
def FnExactMapRootUptoSaid : Prop := fnExactMapRootUptoRow.holds Tryd.pinned (OpenSpec.upto fnExactMapRootSpec)

end Rows
end Go.Proofs.YtlcjaffoblldpaaDoor
