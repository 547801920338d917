/-
  NARROWER THAN 'FOR EVERY INPUT', by the rows' own cells (each row's printed sentence says how): FnClashes: laid · FnExactLeafSum: laid · FnExactNodeSum: laid · FnExactSlotSum: laid · FnExactLeafBytes: laid · FnExactNodeBytes: laid · FnEvents: laid · FnExactEventSum: laid.
  DERIVED. THE GIVEN ROWS OF THIS SEAT. 8 by the template 'for every input the law returns true; each argument reads behind the call as it read before'; 0 by the template 'total and deterministic' (their statements: YtngibnmcagogaaaDoorTotals.lean).
  GIVEN WITH THE SEED: the statements are not yours to turn. If you find one false, say at which input.
  Laid BY PROGRAM, IN A SANDBOX (cutbox-rows.mjs): the forced cells as the released guide's own fill.sh prints them over the translation e3751443778f4ef7… (all of the seat's roots in one cut). By AI agents, Wed Nov 11 2026. No macro, syntax, notation, axiom, sorry.
-/
import Derived.Test.YtngibnmcagogaaaDoorChecked
import GoSem.Claim
import GoSem.ClaimJoined
import GoSem.ClaimMapViews
import Derived.JoinedTies
import Derived.KernelRfl
namespace Go.Proofs.YtngibnmcagogaaaDoor
/- THE CELL 'sum', in the pinned program and in every row, IS THE sha256 OF THE DUMP (.gsa) THAT YtngibnmcagogaaaDoorProg.lean LOADS. Nothing in Lean hashes anything: it is a label: what it is worth is what the hold of that sum in a sandbox is worth. -/
noncomputable def Tryd.pinned : Pinned := { name := "ytngibnmcagogaaadoor", sum := "e3751443778f4ef7b5ca4be966423c95975007bc00ff74d14b11a5cf4fbfe8aa", checked := Tryd.checked }
namespace Rows
def none {H : Type} : Left H := { results := [], args := [] }

/- WHAT THE LISTED PACKAGE-LEVEL VARIABLES READ AS WHEN THE CALL BEGINS. Each datum BY PROGRAM (the guide's laid-datum.mjs) off the statement by which the dump's own 'gosem.cut.vars' lays the variable. In a bare row this is a premise. The card (YtngibnmcagogaaaDoorCards.lean) ties it to the program's text. -/
def laid_loop_example_g00565_impl_pieceStarts {H : Type} : DataW H := .agg [.lit (.int .u8 0), .lit (.int .u8 1), .lit (.int .u8 2), .lit (.int .u8 3), .lit (.int .u8 4), .lit (.int .u8 5)]

/-- 'laws.FnClashes': WHATEVER THE INPUT: true; the input reads as it did. -/
def fnClashesSpec : ChangeSpec := { name := "fnClashes", vars := ["loop.example/g00565/impl.pieceStarts"], fn := fun _ => fun
  | [d, g1] => { results := [.lit (.bool true)], args := [d], vars := [g1] }
  | _ => none }
def fnClashesRow : OpenClaim := { program := "ytngibnmcagogaaadoor", sum := "e3751443778f4ef7b5ca4be966423c95975007bc00ff74d14b11a5cf4fbfe8aa", func := "loop.example/g00565/laws.FnClashes", spec := "fnClashes", named := ["loop.example/g00565/impl.pieceStarts"], apart := false, laid := [("loop.example/g00565/impl.pieceStarts", laid_loop_example_g00565_impl_pieceStarts)] }
def FnClashesSaid : Prop := fnClashesRow.holds Tryd.pinned (OpenSpec.ofChange fnClashesSpec)

/-- ITS FALSE NEIGHBOUR: 'it returns false'. Refute it at one input. -/
def fnClashesWrong : ChangeSpec := { name := "fnClashes", vars := ["loop.example/g00565/impl.pieceStarts"], fn := fun _ => fun
  | [d, g1] => { results := [.lit (.bool false)], args := [d], vars := [g1] }
  | _ => none }
def FnClashesWrongFalsely : Prop := fnClashesRow.holds Tryd.pinned (OpenSpec.ofChange fnClashesWrong)

/-- 'laws.FnExactLeafSum': WHATEVER THE INPUT: true; the input reads as it did. -/
def fnExactLeafSumSpec : ChangeSpec := { name := "fnExactLeafSum", vars := ["loop.example/g00565/impl.pieceStarts"], fn := fun _ => fun
  | [d, g1] => { results := [.lit (.bool true)], args := [d], vars := [g1] }
  | _ => none }
def fnExactLeafSumRow : OpenClaim := { program := "ytngibnmcagogaaadoor", sum := "e3751443778f4ef7b5ca4be966423c95975007bc00ff74d14b11a5cf4fbfe8aa", func := "loop.example/g00565/laws.FnExactLeafSum", spec := "fnExactLeafSum", named := ["loop.example/g00565/impl.pieceStarts"], apart := false, laid := [("loop.example/g00565/impl.pieceStarts", laid_loop_example_g00565_impl_pieceStarts)] }
def FnExactLeafSumSaid : Prop := fnExactLeafSumRow.holds Tryd.pinned (OpenSpec.ofChange fnExactLeafSumSpec)

/-- ITS FALSE NEIGHBOUR: 'it returns false'. Refute it at one input. -/
def fnExactLeafSumWrong : ChangeSpec := { name := "fnExactLeafSum", vars := ["loop.example/g00565/impl.pieceStarts"], fn := fun _ => fun
  | [d, g1] => { results := [.lit (.bool false)], args := [d], vars := [g1] }
  | _ => none }
def FnExactLeafSumWrongFalsely : Prop := fnExactLeafSumRow.holds Tryd.pinned (OpenSpec.ofChange fnExactLeafSumWrong)

/-- 'laws.FnExactNodeSum': WHATEVER THE INPUT: true; the input reads as it did. -/
def fnExactNodeSumSpec : ChangeSpec := { name := "fnExactNodeSum", vars := ["loop.example/g00565/impl.pieceStarts"], fn := fun _ => fun
  | [d1, d2, g1] => { results := [.lit (.bool true)], args := [d1, d2], vars := [g1] }
  | _ => none }
def fnExactNodeSumRow : OpenClaim := { program := "ytngibnmcagogaaadoor", sum := "e3751443778f4ef7b5ca4be966423c95975007bc00ff74d14b11a5cf4fbfe8aa", func := "loop.example/g00565/laws.FnExactNodeSum", spec := "fnExactNodeSum", named := ["loop.example/g00565/impl.pieceStarts"], apart := false, laid := [("loop.example/g00565/impl.pieceStarts", laid_loop_example_g00565_impl_pieceStarts)] }
def FnExactNodeSumSaid : Prop := fnExactNodeSumRow.holds Tryd.pinned (OpenSpec.ofChange fnExactNodeSumSpec)

/-- ITS FALSE NEIGHBOUR: 'it returns false'. Refute it at one input. -/
def fnExactNodeSumWrong : ChangeSpec := { name := "fnExactNodeSum", vars := ["loop.example/g00565/impl.pieceStarts"], fn := fun _ => fun
  | [d1, d2, g1] => { results := [.lit (.bool false)], args := [d1, d2], vars := [g1] }
  | _ => none }
def FnExactNodeSumWrongFalsely : Prop := fnExactNodeSumRow.holds Tryd.pinned (OpenSpec.ofChange fnExactNodeSumWrong)

/-- 'laws.FnExactSlotSum': WHATEVER THE INPUT: true; the input reads as it did. -/
def fnExactSlotSumSpec : ChangeSpec := { name := "fnExactSlotSum", vars := ["loop.example/g00565/impl.pieceStarts"], fn := fun _ => fun
  | [d1, d2, g1] => { results := [.lit (.bool true)], args := [d1, d2], vars := [g1] }
  | _ => none }
def fnExactSlotSumRow : OpenClaim := { program := "ytngibnmcagogaaadoor", sum := "e3751443778f4ef7b5ca4be966423c95975007bc00ff74d14b11a5cf4fbfe8aa", func := "loop.example/g00565/laws.FnExactSlotSum", spec := "fnExactSlotSum", named := ["loop.example/g00565/impl.pieceStarts"], apart := false, laid := [("loop.example/g00565/impl.pieceStarts", laid_loop_example_g00565_impl_pieceStarts)] }
def FnExactSlotSumSaid : Prop := fnExactSlotSumRow.holds Tryd.pinned (OpenSpec.ofChange fnExactSlotSumSpec)

/-- ITS FALSE NEIGHBOUR: 'it returns false'. Refute it at one input. -/
def fnExactSlotSumWrong : ChangeSpec := { name := "fnExactSlotSum", vars := ["loop.example/g00565/impl.pieceStarts"], fn := fun _ => fun
  | [d1, d2, g1] => { results := [.lit (.bool false)], args := [d1, d2], vars := [g1] }
  | _ => none }
def FnExactSlotSumWrongFalsely : Prop := fnExactSlotSumRow.holds Tryd.pinned (OpenSpec.ofChange fnExactSlotSumWrong)

/-- 'laws.FnExactLeafBytes': WHATEVER THE INPUT: true; the input reads as it did. -/
def fnExactLeafBytesSpec : ChangeSpec := { name := "fnExactLeafBytes", vars := ["loop.example/g00565/impl.pieceStarts"], fn := fun _ => fun
  | [d, g1] => { results := [.lit (.bool true)], args := [d], vars := [g1] }
  | _ => none }
def fnExactLeafBytesRow : OpenClaim := { program := "ytngibnmcagogaaadoor", sum := "e3751443778f4ef7b5ca4be966423c95975007bc00ff74d14b11a5cf4fbfe8aa", func := "loop.example/g00565/laws.FnExactLeafBytes", spec := "fnExactLeafBytes", named := ["loop.example/g00565/impl.pieceStarts"], apart := false, laid := [("loop.example/g00565/impl.pieceStarts", laid_loop_example_g00565_impl_pieceStarts)] }
def FnExactLeafBytesSaid : Prop := fnExactLeafBytesRow.holds Tryd.pinned (OpenSpec.ofChange fnExactLeafBytesSpec)

/-- ITS FALSE NEIGHBOUR: 'it returns false'. Refute it at one input. -/
def fnExactLeafBytesWrong : ChangeSpec := { name := "fnExactLeafBytes", vars := ["loop.example/g00565/impl.pieceStarts"], fn := fun _ => fun
  | [d, g1] => { results := [.lit (.bool false)], args := [d], vars := [g1] }
  | _ => none }
def FnExactLeafBytesWrongFalsely : Prop := fnExactLeafBytesRow.holds Tryd.pinned (OpenSpec.ofChange fnExactLeafBytesWrong)

/-- 'laws.FnExactNodeBytes': WHATEVER THE INPUT: true; the input reads as it did. -/
def fnExactNodeBytesSpec : ChangeSpec := { name := "fnExactNodeBytes", vars := ["loop.example/g00565/impl.pieceStarts"], fn := fun _ => fun
  | [d1, d2, g1] => { results := [.lit (.bool true)], args := [d1, d2], vars := [g1] }
  | _ => none }
def fnExactNodeBytesRow : OpenClaim := { program := "ytngibnmcagogaaadoor", sum := "e3751443778f4ef7b5ca4be966423c95975007bc00ff74d14b11a5cf4fbfe8aa", func := "loop.example/g00565/laws.FnExactNodeBytes", spec := "fnExactNodeBytes", named := ["loop.example/g00565/impl.pieceStarts"], apart := false, laid := [("loop.example/g00565/impl.pieceStarts", laid_loop_example_g00565_impl_pieceStarts)] }
def FnExactNodeBytesSaid : Prop := fnExactNodeBytesRow.holds Tryd.pinned (OpenSpec.ofChange fnExactNodeBytesSpec)

/-- ITS FALSE NEIGHBOUR: 'it returns false'. Refute it at one input. -/
def fnExactNodeBytesWrong : ChangeSpec := { name := "fnExactNodeBytes", vars := ["loop.example/g00565/impl.pieceStarts"], fn := fun _ => fun
  | [d1, d2, g1] => { results := [.lit (.bool false)], args := [d1, d2], vars := [g1] }
  | _ => none }
def FnExactNodeBytesWrongFalsely : Prop := fnExactNodeBytesRow.holds Tryd.pinned (OpenSpec.ofChange fnExactNodeBytesWrong)

/-- 'laws.FnEvents': WHATEVER THE INPUT: true; the input reads as it did. -/
def fnEventsSpec : ChangeSpec := { name := "fnEvents", vars := ["loop.example/g00565/impl.pieceStarts"], fn := fun _ => fun
  | [d, g1] => { results := [.lit (.bool true)], args := [d], vars := [g1] }
  | _ => none }
def fnEventsRow : OpenClaim := { program := "ytngibnmcagogaaadoor", sum := "e3751443778f4ef7b5ca4be966423c95975007bc00ff74d14b11a5cf4fbfe8aa", func := "loop.example/g00565/laws.FnEvents", spec := "fnEvents", named := ["loop.example/g00565/impl.pieceStarts"], apart := false, laid := [("loop.example/g00565/impl.pieceStarts", laid_loop_example_g00565_impl_pieceStarts)] }
def FnEventsSaid : Prop := fnEventsRow.holds Tryd.pinned (OpenSpec.ofChange fnEventsSpec)

/-- ITS FALSE NEIGHBOUR: 'it returns false'. Refute it at one input. -/
def fnEventsWrong : ChangeSpec := { name := "fnEvents", vars := ["loop.example/g00565/impl.pieceStarts"], fn := fun _ => fun
  | [d, g1] => { results := [.lit (.bool false)], args := [d], vars := [g1] }
  | _ => none }
def FnEventsWrongFalsely : Prop := fnEventsRow.holds Tryd.pinned (OpenSpec.ofChange fnEventsWrong)

/-- 'laws.FnExactEventSum': WHATEVER THE INPUT: true; the input reads as it did. -/
def fnExactEventSumSpec : ChangeSpec := { name := "fnExactEventSum", vars := ["loop.example/g00565/impl.pieceStarts"], fn := fun _ => fun
  | [d, g1] => { results := [.lit (.bool true)], args := [d], vars := [g1] }
  | _ => none }
def fnExactEventSumRow : OpenClaim := { program := "ytngibnmcagogaaadoor", sum := "e3751443778f4ef7b5ca4be966423c95975007bc00ff74d14b11a5cf4fbfe8aa", func := "loop.example/g00565/laws.FnExactEventSum", spec := "fnExactEventSum", named := ["loop.example/g00565/impl.pieceStarts"], apart := false, laid := [("loop.example/g00565/impl.pieceStarts", laid_loop_example_g00565_impl_pieceStarts)] }
def FnExactEventSumSaid : Prop := fnExactEventSumRow.holds Tryd.pinned (OpenSpec.ofChange fnExactEventSumSpec)

/-- ITS FALSE NEIGHBOUR: 'it returns false'. Refute it at one input. -/
def fnExactEventSumWrong : ChangeSpec := { name := "fnExactEventSum", vars := ["loop.example/g00565/impl.pieceStarts"], fn := fun _ => fun
  | [d, g1] => { results := [.lit (.bool false)], args := [d], vars := [g1] }
  | _ => none }
def FnExactEventSumWrongFalsely : Prop := fnExactEventSumRow.holds Tryd.pinned (OpenSpec.ofChange fnExactEventSumWrong)

/- THE SECOND FORM. 'bulk': how many values and letters a reading holds, each counted each time it is reached (what is shared counts as often as it is met; a slice's spare places count too). A statement '..UptoSaid' is the law's where the arguments, and the package variables that the reading takes, are together of bulk at most 1048576: NARROWER than '..Said'. Prove '..Said' where nothing that the law and all that it calls make is longer than what came in: it says more and counts as full. Else prove '..UptoSaid'. A law counts once. -/
mutual
def uptoBulk {H : Type} : DataW H → Nat
  | .lit (.string bytes) => bytes.length + 1
  | .lit _ => 1
  | .nil => 1
  | .ptr d => uptoBulk d + 1
  | .slice elems spare => uptoBulkAll elems + uptoBulkAll spare + 1
  | .agg parts => uptoBulkAll parts + 1
  | .iface _ d => uptoBulk d + 1
  | .map entries => uptoBulkEntries entries + 1
  | .held _ => 1
def uptoBulkAll {H : Type} : List (DataW H) → Nat
  | [] => 0
  | d :: r => uptoBulk d + uptoBulkAll r
def uptoBulkEntries {H : Type} : List (Lit × DataW H) → Nat
  | [] => 0
  | x :: r => uptoBulkEntry x + uptoBulkEntries r
def uptoBulkEntry {H : Type} : Lit × DataW H → Nat
  | (.string bytes, d) => bytes.length + uptoBulk d + 1
  | (_, d) => uptoBulk d + 1
 end
def uptoSmall : (H : Type) → List (DataW H) → Bool := fun _ ds => decide (uptoBulkAll ds ≤ 1048576)
def OpenSpec.upto (s : _root_.Go.ChangeSpec) : _root_.Go.OpenSpec := { _root_.Go.OpenSpec.ofChange s with cond := some uptoSmall }

/-- 'laws.FnClashes', WHERE WHAT IT READS IS OF BULK AT MOST 1048576: true; the input reads as it did. -/
def fnClashesUptoRow : OpenClaim := { program := "ytngibnmcagogaaadoor", sum := "e3751443778f4ef7b5ca4be966423c95975007bc00ff74d14b11a5cf4fbfe8aa", func := "loop.example/g00565/laws.FnClashes", spec := "fnClashes", named := ["loop.example/g00565/impl.pieceStarts"], apart := false, laid := [("loop.example/g00565/impl.pieceStarts", laid_loop_example_g00565_impl_pieceStarts)], narrowed := true }
def FnClashesUptoSaid : Prop := fnClashesUptoRow.holds Tryd.pinned (OpenSpec.upto fnClashesSpec)

/-- 'laws.FnExactLeafSum', WHERE WHAT IT READS IS OF BULK AT MOST 1048576: true; the input reads as it did. -/
def fnExactLeafSumUptoRow : OpenClaim := { program := "ytngibnmcagogaaadoor", sum := "e3751443778f4ef7b5ca4be966423c95975007bc00ff74d14b11a5cf4fbfe8aa", func := "loop.example/g00565/laws.FnExactLeafSum", spec := "fnExactLeafSum", named := ["loop.example/g00565/impl.pieceStarts"], apart := false, laid := [("loop.example/g00565/impl.pieceStarts", laid_loop_example_g00565_impl_pieceStarts)], narrowed := true }
def FnExactLeafSumUptoSaid : Prop := fnExactLeafSumUptoRow.holds Tryd.pinned (OpenSpec.upto fnExactLeafSumSpec)

/-- 'laws.FnExactNodeSum', WHERE WHAT IT READS IS OF BULK AT MOST 1048576: true; the input reads as it did. -/
def fnExactNodeSumUptoRow : OpenClaim := { program := "ytngibnmcagogaaadoor", sum := "e3751443778f4ef7b5ca4be966423c95975007bc00ff74d14b11a5cf4fbfe8aa", func := "loop.example/g00565/laws.FnExactNodeSum", spec := "fnExactNodeSum", named := ["loop.example/g00565/impl.pieceStarts"], apart := false, laid := [("loop.example/g00565/impl.pieceStarts", laid_loop_example_g00565_impl_pieceStarts)], narrowed := true }
def FnExactNodeSumUptoSaid : Prop := fnExactNodeSumUptoRow.holds Tryd.pinned (OpenSpec.upto fnExactNodeSumSpec)

/-- 'laws.FnExactSlotSum', WHERE WHAT IT READS IS OF BULK AT MOST 1048576: true; the input reads as it did. -/
def fnExactSlotSumUptoRow : OpenClaim := { program := "ytngibnmcagogaaadoor", sum := "e3751443778f4ef7b5ca4be966423c95975007bc00ff74d14b11a5cf4fbfe8aa", func := "loop.example/g00565/laws.FnExactSlotSum", spec := "fnExactSlotSum", named := ["loop.example/g00565/impl.pieceStarts"], apart := false, laid := [("loop.example/g00565/impl.pieceStarts", laid_loop_example_g00565_impl_pieceStarts)], narrowed := true }
def FnExactSlotSumUptoSaid : Prop := fnExactSlotSumUptoRow.holds Tryd.pinned (OpenSpec.upto fnExactSlotSumSpec)

/-- 'laws.FnExactLeafBytes', WHERE WHAT IT READS IS OF BULK AT MOST 1048576: true; the input reads as it did. -/
def fnExactLeafBytesUptoRow : OpenClaim := { program := "ytngibnmcagogaaadoor", sum := "e3751443778f4ef7b5ca4be966423c95975007bc00ff74d14b11a5cf4fbfe8aa", func := "loop.example/g00565/laws.FnExactLeafBytes", spec := "fnExactLeafBytes", named := ["loop.example/g00565/impl.pieceStarts"], apart := false, laid := [("loop.example/g00565/impl.pieceStarts", laid_loop_example_g00565_impl_pieceStarts)], narrowed := true }
def FnExactLeafBytesUptoSaid : Prop := fnExactLeafBytesUptoRow.holds Tryd.pinned (OpenSpec.upto fnExactLeafBytesSpec)

/-- 'laws.FnExactNodeBytes', WHERE WHAT IT READS IS OF BULK AT MOST 1048576: true; the input reads as it did. -/
def fnExactNodeBytesUptoRow : OpenClaim := { program := "ytngibnmcagogaaadoor", sum := "e3751443778f4ef7b5ca4be966423c95975007bc00ff74d14b11a5cf4fbfe8aa", func := "loop.example/g00565/laws.FnExactNodeBytes", spec := "fnExactNodeBytes", named := ["loop.example/g00565/impl.pieceStarts"], apart := false, laid := [("loop.example/g00565/impl.pieceStarts", laid_loop_example_g00565_impl_pieceStarts)], narrowed := true }
def FnExactNodeBytesUptoSaid : Prop := fnExactNodeBytesUptoRow.holds Tryd.pinned (OpenSpec.upto fnExactNodeBytesSpec)

/-- 'laws.FnEvents', WHERE WHAT IT READS IS OF BULK AT MOST 1048576: true; the input reads as it did. -/
def fnEventsUptoRow : OpenClaim := { program := "ytngibnmcagogaaadoor", sum := "e3751443778f4ef7b5ca4be966423c95975007bc00ff74d14b11a5cf4fbfe8aa", func := "loop.example/g00565/laws.FnEvents", spec := "fnEvents", named := ["loop.example/g00565/impl.pieceStarts"], apart := false, laid := [("loop.example/g00565/impl.pieceStarts", laid_loop_example_g00565_impl_pieceStarts)], narrowed := true }
def FnEventsUptoSaid : Prop := fnEventsUptoRow.holds Tryd.pinned (OpenSpec.upto fnEventsSpec)

/-- 'laws.FnExactEventSum', WHERE WHAT IT READS IS OF BULK AT MOST 1048576: true; the input reads as it did. -/
def fnExactEventSumUptoRow : OpenClaim := { program := "ytngibnmcagogaaadoor", sum := "e3751443778f4ef7b5ca4be966423c95975007bc00ff74d14b11a5cf4fbfe8aa", func := "loop.example/g00565/laws.FnExactEventSum", spec := "fnExactEventSum", named := ["loop.example/g00565/impl.pieceStarts"], apart := false, laid := [("loop.example/g00565/impl.pieceStarts", laid_loop_example_g00565_impl_pieceStarts)], narrowed := true }
def FnExactEventSumUptoSaid : Prop := fnExactEventSumUptoRow.holds Tryd.pinned (OpenSpec.upto fnExactEventSumSpec)

end Rows
end Go.Proofs.YtngibnmcagogaaaDoor
