/-
  NARROWER THAN 'FOR EVERY INPUT', by the rows' own cells (each row's printed sentence says how): FnMaps: laid · FnMapTrue: laid · FnExactMapRoot: laid · FnExactMapPath: laid · FnExactClimbSlot: laid · FnExactAcceptSlot: laid · FnExactMapClash: laid.
  DERIVED. THE GIVEN ROWS OF THIS SEAT. 7 by the template 'for every input the law returns true; each argument reads behind the call as it read before'; 0 by the template 'total and deterministic' (their statements: YtjjddjohckcmbaaDoorTotals.lean).
  GIVEN WITH THE SEED: the statements are not yours to turn. If you find one false, say at which input.
  Laid BY PROGRAM, IN A SANDBOX (cutbox-rows.mjs): the forced cells as the released guide's own fill.sh prints them over the translation 527dc417f024a65e… (all of the seat's roots in one cut). By AI agents, Wed Nov 11 2026. No macro, syntax, notation, axiom, sorry.
-/
import Derived.Test.YtjjddjohckcmbaaDoorChecked
import GoSem.Claim
import GoSem.ClaimJoined
import GoSem.ClaimMapViews
import Derived.JoinedTies
import Derived.KernelRfl
namespace Go.Proofs.YtjjddjohckcmbaaDoor
/- THE CELL 'sum', in the pinned program and in every row, IS THE sha256 OF THE DUMP (.gsa) THAT YtjjddjohckcmbaaDoorProg.lean LOADS. Nothing in Lean hashes anything: it is a label: what it is worth is what the hold of that sum in a sandbox is worth. -/
noncomputable def Tryd.pinned : Pinned := { name := "ytjjddjohckcmbaadoor", sum := "527dc417f024a65eada489e584125f5968090a84c61c1a2bc6bd1aef112a242f", checked := Tryd.checked }
namespace Rows
def none {H : Type} : Left H := { results := [], args := [] }

/- WHAT THE LISTED PACKAGE-LEVEL VARIABLES READ AS WHEN THE CALL BEGINS. Each datum BY PROGRAM (the guide's laid-datum.mjs) off the statement by which the dump's own 'gosem.cut.vars' lays the variable. In a bare row this is a premise. The card (YtjjddjohckcmbaaDoorCards.lean) ties it to the program's text. -/
def laid_loop_example_g00565_impl_pieceStarts {H : Type} : DataW H := .agg [.lit (.int .u8 0), .lit (.int .u8 1), .lit (.int .u8 2), .lit (.int .u8 3), .lit (.int .u8 4), .lit (.int .u8 5)]

/-- 'laws.FnMaps': WHATEVER THE INPUT: true; the input reads as it did. -/
def fnMapsSpec : ChangeSpec := { name := "fnMaps", vars := ["loop.example/g00565/impl.pieceStarts"], fn := fun _ => fun
  | [d, g1] => { results := [.lit (.bool true)], args := [d], vars := [g1] }
  | _ => none }
def fnMapsRow : OpenClaim := { program := "ytjjddjohckcmbaadoor", sum := "527dc417f024a65eada489e584125f5968090a84c61c1a2bc6bd1aef112a242f", func := "loop.example/g00565/laws.FnMaps", spec := "fnMaps", unfollowed := true, recurses := true, named := ["loop.example/g00565/impl.pieceStarts"], apart := false, laid := [("loop.example/g00565/impl.pieceStarts", laid_loop_example_g00565_impl_pieceStarts)] }
def FnMapsSaid : Prop := fnMapsRow.holds Tryd.pinned (OpenSpec.ofChange fnMapsSpec)

/-- ITS FALSE NEIGHBOUR: 'it returns false'. Refute it at one input. -/
def fnMapsWrong : ChangeSpec := { name := "fnMaps", vars := ["loop.example/g00565/impl.pieceStarts"], fn := fun _ => fun
  | [d, g1] => { results := [.lit (.bool false)], args := [d], vars := [g1] }
  | _ => none }
def FnMapsWrongFalsely : Prop := fnMapsRow.holds Tryd.pinned (OpenSpec.ofChange fnMapsWrong)

/-- 'laws.FnMapTrue': WHATEVER THE INPUT: true; the input reads as it did. -/
def fnMapTrueSpec : ChangeSpec := { name := "fnMapTrue", vars := ["loop.example/g00565/impl.pieceStarts"], fn := fun _ => fun
  | [d, g1] => { results := [.lit (.bool true)], args := [d], vars := [g1] }
  | _ => none }
def fnMapTrueRow : OpenClaim := { program := "ytjjddjohckcmbaadoor", sum := "527dc417f024a65eada489e584125f5968090a84c61c1a2bc6bd1aef112a242f", func := "loop.example/g00565/laws.FnMapTrue", spec := "fnMapTrue", unfollowed := true, recurses := true, named := ["loop.example/g00565/impl.pieceStarts"], apart := false, laid := [("loop.example/g00565/impl.pieceStarts", laid_loop_example_g00565_impl_pieceStarts)] }
def FnMapTrueSaid : Prop := fnMapTrueRow.holds Tryd.pinned (OpenSpec.ofChange fnMapTrueSpec)

/-- ITS FALSE NEIGHBOUR: 'it returns false'. Refute it at one input. -/
def fnMapTrueWrong : ChangeSpec := { name := "fnMapTrue", vars := ["loop.example/g00565/impl.pieceStarts"], fn := fun _ => fun
  | [d, g1] => { results := [.lit (.bool false)], args := [d], vars := [g1] }
  | _ => none }
def FnMapTrueWrongFalsely : Prop := fnMapTrueRow.holds Tryd.pinned (OpenSpec.ofChange fnMapTrueWrong)

/-- 'laws.FnExactMapRoot': WHATEVER THE INPUT: true; the input reads as it did. -/
def fnExactMapRootSpec : ChangeSpec := { name := "fnExactMapRoot", vars := ["loop.example/g00565/impl.pieceStarts"], fn := fun _ => fun
  | [d, g1] => { results := [.lit (.bool true)], args := [d], vars := [g1] }
  | _ => none }
def fnExactMapRootRow : OpenClaim := { program := "ytjjddjohckcmbaadoor", sum := "527dc417f024a65eada489e584125f5968090a84c61c1a2bc6bd1aef112a242f", func := "loop.example/g00565/laws.FnExactMapRoot", spec := "fnExactMapRoot", unfollowed := true, recurses := true, named := ["loop.example/g00565/impl.pieceStarts"], apart := false, laid := [("loop.example/g00565/impl.pieceStarts", laid_loop_example_g00565_impl_pieceStarts)] }
def FnExactMapRootSaid : Prop := fnExactMapRootRow.holds Tryd.pinned (OpenSpec.ofChange fnExactMapRootSpec)

/-- ITS FALSE NEIGHBOUR: 'it returns false'. Refute it at one input. -/
def fnExactMapRootWrong : ChangeSpec := { name := "fnExactMapRoot", vars := ["loop.example/g00565/impl.pieceStarts"], fn := fun _ => fun
  | [d, g1] => { results := [.lit (.bool false)], args := [d], vars := [g1] }
  | _ => none }
def FnExactMapRootWrongFalsely : Prop := fnExactMapRootRow.holds Tryd.pinned (OpenSpec.ofChange fnExactMapRootWrong)

/-- 'laws.FnExactMapPath': WHATEVER THE INPUT: true; the input reads as it did. -/
def fnExactMapPathSpec : ChangeSpec := { name := "fnExactMapPath", vars := ["loop.example/g00565/impl.pieceStarts"], fn := fun _ => fun
  | [d1, d2, g1] => { results := [.lit (.bool true)], args := [d1, d2], vars := [g1] }
  | _ => none }
def fnExactMapPathRow : OpenClaim := { program := "ytjjddjohckcmbaadoor", sum := "527dc417f024a65eada489e584125f5968090a84c61c1a2bc6bd1aef112a242f", func := "loop.example/g00565/laws.FnExactMapPath", spec := "fnExactMapPath", unfollowed := true, recurses := true, named := ["loop.example/g00565/impl.pieceStarts"], apart := false, laid := [("loop.example/g00565/impl.pieceStarts", laid_loop_example_g00565_impl_pieceStarts)] }
def FnExactMapPathSaid : Prop := fnExactMapPathRow.holds Tryd.pinned (OpenSpec.ofChange fnExactMapPathSpec)

/-- ITS FALSE NEIGHBOUR: 'it returns false'. Refute it at one input. -/
def fnExactMapPathWrong : ChangeSpec := { name := "fnExactMapPath", vars := ["loop.example/g00565/impl.pieceStarts"], fn := fun _ => fun
  | [d1, d2, g1] => { results := [.lit (.bool false)], args := [d1, d2], vars := [g1] }
  | _ => none }
def FnExactMapPathWrongFalsely : Prop := fnExactMapPathRow.holds Tryd.pinned (OpenSpec.ofChange fnExactMapPathWrong)

/-- 'laws.FnExactClimbSlot': WHATEVER THE INPUT: true; the input reads as it did. -/
def fnExactClimbSlotSpec : ChangeSpec := { name := "fnExactClimbSlot", vars := ["loop.example/g00565/impl.pieceStarts"], fn := fun _ => fun
  | [d1, d2, d3, d4, g1] => { results := [.lit (.bool true)], args := [d1, d2, d3, d4], vars := [g1] }
  | _ => none }
def fnExactClimbSlotRow : OpenClaim := { program := "ytjjddjohckcmbaadoor", sum := "527dc417f024a65eada489e584125f5968090a84c61c1a2bc6bd1aef112a242f", func := "loop.example/g00565/laws.FnExactClimbSlot", spec := "fnExactClimbSlot", named := ["loop.example/g00565/impl.pieceStarts"], apart := false, laid := [("loop.example/g00565/impl.pieceStarts", laid_loop_example_g00565_impl_pieceStarts)] }
def FnExactClimbSlotSaid : Prop := fnExactClimbSlotRow.holds Tryd.pinned (OpenSpec.ofChange fnExactClimbSlotSpec)

/-- ITS FALSE NEIGHBOUR: 'it returns false'. Refute it at one input. -/
def fnExactClimbSlotWrong : ChangeSpec := { name := "fnExactClimbSlot", vars := ["loop.example/g00565/impl.pieceStarts"], fn := fun _ => fun
  | [d1, d2, d3, d4, g1] => { results := [.lit (.bool false)], args := [d1, d2, d3, d4], vars := [g1] }
  | _ => none }
def FnExactClimbSlotWrongFalsely : Prop := fnExactClimbSlotRow.holds Tryd.pinned (OpenSpec.ofChange fnExactClimbSlotWrong)

/-- 'laws.FnExactAcceptSlot': WHATEVER THE INPUT: true; the input reads as it did. -/
def fnExactAcceptSlotSpec : ChangeSpec := { name := "fnExactAcceptSlot", vars := ["loop.example/g00565/impl.pieceStarts"], fn := fun _ => fun
  | [d1, d2, d3, d4, d5, g1] => { results := [.lit (.bool true)], args := [d1, d2, d3, d4, d5], vars := [g1] }
  | _ => none }
def fnExactAcceptSlotRow : OpenClaim := { program := "ytjjddjohckcmbaadoor", sum := "527dc417f024a65eada489e584125f5968090a84c61c1a2bc6bd1aef112a242f", func := "loop.example/g00565/laws.FnExactAcceptSlot", spec := "fnExactAcceptSlot", named := ["loop.example/g00565/impl.pieceStarts"], apart := false, laid := [("loop.example/g00565/impl.pieceStarts", laid_loop_example_g00565_impl_pieceStarts)] }
def FnExactAcceptSlotSaid : Prop := fnExactAcceptSlotRow.holds Tryd.pinned (OpenSpec.ofChange fnExactAcceptSlotSpec)

/-- ITS FALSE NEIGHBOUR: 'it returns false'. Refute it at one input. -/
def fnExactAcceptSlotWrong : ChangeSpec := { name := "fnExactAcceptSlot", vars := ["loop.example/g00565/impl.pieceStarts"], fn := fun _ => fun
  | [d1, d2, d3, d4, d5, g1] => { results := [.lit (.bool false)], args := [d1, d2, d3, d4, d5], vars := [g1] }
  | _ => none }
def FnExactAcceptSlotWrongFalsely : Prop := fnExactAcceptSlotRow.holds Tryd.pinned (OpenSpec.ofChange fnExactAcceptSlotWrong)

/-- 'laws.FnExactMapClash': WHATEVER THE INPUT: true; the input reads as it did. -/
def fnExactMapClashSpec : ChangeSpec := { name := "fnExactMapClash", vars := ["loop.example/g00565/impl.pieceStarts"], fn := fun _ => fun
  | [d1, d2, d3, d4, d5, g1] => { results := [.lit (.bool true)], args := [d1, d2, d3, d4, d5], vars := [g1] }
  | _ => none }
def fnExactMapClashRow : OpenClaim := { program := "ytjjddjohckcmbaadoor", sum := "527dc417f024a65eada489e584125f5968090a84c61c1a2bc6bd1aef112a242f", func := "loop.example/g00565/laws.FnExactMapClash", spec := "fnExactMapClash", unfollowed := true, recurses := true, named := ["loop.example/g00565/impl.pieceStarts"], apart := false, laid := [("loop.example/g00565/impl.pieceStarts", laid_loop_example_g00565_impl_pieceStarts)] }
def FnExactMapClashSaid : Prop := fnExactMapClashRow.holds Tryd.pinned (OpenSpec.ofChange fnExactMapClashSpec)

/-- ITS FALSE NEIGHBOUR: 'it returns false'. Refute it at one input. -/
def fnExactMapClashWrong : ChangeSpec := { name := "fnExactMapClash", vars := ["loop.example/g00565/impl.pieceStarts"], fn := fun _ => fun
  | [d1, d2, d3, d4, d5, g1] => { results := [.lit (.bool false)], args := [d1, d2, d3, d4, d5], vars := [g1] }
  | _ => none }
def FnExactMapClashWrongFalsely : Prop := fnExactMapClashRow.holds Tryd.pinned (OpenSpec.ofChange fnExactMapClashWrong)

/- THE SECOND FORM. 'bulk': how many values and letters a reading holds, each counted each time it is reached (what is shared counts as often as it is met; a slice's spare places count too). A statement '..UptoSaid' is the law's where the arguments, and the package variables that the reading takes, are together of bulk at most 1048576: NARROWER than '..Said'. Prove '..Said' where nothing that the law and all that it calls make is longer than what came in: it says more and counts as full. Else prove '..UptoSaid'. A law counts once. -/
mutual
def uptoBulk {H : Type} : DataW H → Nat
  | .lit (.string bytes) => bytes.length + 1
  | .lit _ => 1
  | .nil => 1
  | .ptr d => uptoBulk d + 1
  | .slice elems spare => uptoBulkAll elems + uptoBulkAll spare + 1
  | .agg parts => uptoBulkAll parts + 1
  | .iface _ d => uptoBulk d + 1
  | .map entries => uptoBulkEntries entries + 1
  | .held _ => 1
def uptoBulkAll {H : Type} : List (DataW H) → Nat
  | [] => 0
  | d :: r => uptoBulk d + uptoBulkAll r
def uptoBulkEntries {H : Type} : List (Lit × DataW H) → Nat
  | [] => 0
  | x :: r => uptoBulkEntry x + uptoBulkEntries r
def uptoBulkEntry {H : Type} : Lit × DataW H → Nat
  | (.string bytes, d) => bytes.length + uptoBulk d + 1
  | (_, d) => uptoBulk d + 1
 end
def uptoSmall : (H : Type) → List (DataW H) → Bool := fun _ ds => decide (uptoBulkAll ds ≤ 1048576)
def OpenSpec.upto (s : _root_.Go.ChangeSpec) : _root_.Go.OpenSpec := { _root_.Go.OpenSpec.ofChange s with cond := some uptoSmall }

/-- 'laws.FnMaps', WHERE WHAT IT READS IS OF BULK AT MOST 1048576: true; the input reads as it did. -/
def fnMapsUptoRow : OpenClaim := { program := "ytjjddjohckcmbaadoor", sum := "527dc417f024a65eada489e584125f5968090a84c61c1a2bc6bd1aef112a242f", func := "loop.example/g00565/laws.FnMaps", spec := "fnMaps", unfollowed := true, recurses := true, named := ["loop.example/g00565/impl.pieceStarts"], apart := false, laid := [("loop.example/g00565/impl.pieceStarts", laid_loop_example_g00565_impl_pieceStarts)], narrowed := true }
def FnMapsUptoSaid : Prop := fnMapsUptoRow.holds Tryd.pinned (OpenSpec.upto fnMapsSpec)

/-- 'laws.FnMapTrue', WHERE WHAT IT READS IS OF BULK AT MOST 1048576: true; the input reads as it did. -/
def fnMapTrueUptoRow : OpenClaim := { program := "ytjjddjohckcmbaadoor", sum := "527dc417f024a65eada489e584125f5968090a84c61c1a2bc6bd1aef112a242f", func := "loop.example/g00565/laws.FnMapTrue", spec := "fnMapTrue", unfollowed := true, recurses := true, named := ["loop.example/g00565/impl.pieceStarts"], apart := false, laid := [("loop.example/g00565/impl.pieceStarts", laid_loop_example_g00565_impl_pieceStarts)], narrowed := true }
def FnMapTrueUptoSaid : Prop := fnMapTrueUptoRow.holds Tryd.pinned (OpenSpec.upto fnMapTrueSpec)

/-- 'laws.FnExactMapRoot', WHERE WHAT IT READS IS OF BULK AT MOST 1048576: true; the input reads as it did. -/
def fnExactMapRootUptoRow : OpenClaim := { program := "ytjjddjohckcmbaadoor", sum := "527dc417f024a65eada489e584125f5968090a84c61c1a2bc6bd1aef112a242f", func := "loop.example/g00565/laws.FnExactMapRoot", spec := "fnExactMapRoot", unfollowed := true, recurses := true, named := ["loop.example/g00565/impl.pieceStarts"], apart := false, laid := [("loop.example/g00565/impl.pieceStarts", laid_loop_example_g00565_impl_pieceStarts)], narrowed := true }
def FnExactMapRootUptoSaid : Prop := fnExactMapRootUptoRow.holds Tryd.pinned (OpenSpec.upto fnExactMapRootSpec)

/-- 'laws.FnExactMapPath', WHERE WHAT IT READS IS OF BULK AT MOST 1048576: true; the input reads as it did. -/
def fnExactMapPathUptoRow : OpenClaim := { program := "ytjjddjohckcmbaadoor", sum := "527dc417f024a65eada489e584125f5968090a84c61c1a2bc6bd1aef112a242f", func := "loop.example/g00565/laws.FnExactMapPath", spec := "fnExactMapPath", unfollowed := true, recurses := true, named := ["loop.example/g00565/impl.pieceStarts"], apart := false, laid := [("loop.example/g00565/impl.pieceStarts", laid_loop_example_g00565_impl_pieceStarts)], narrowed := true }
def FnExactMapPathUptoSaid : Prop := fnExactMapPathUptoRow.holds Tryd.pinned (OpenSpec.upto fnExactMapPathSpec)

/-- 'laws.FnExactClimbSlot', WHERE WHAT IT READS IS OF BULK AT MOST 1048576: true; the input reads as it did. -/
def fnExactClimbSlotUptoRow : OpenClaim := { program := "ytjjddjohckcmbaadoor", sum := "527dc417f024a65eada489e584125f5968090a84c61c1a2bc6bd1aef112a242f", func := "loop.example/g00565/laws.FnExactClimbSlot", spec := "fnExactClimbSlot", named := ["loop.example/g00565/impl.pieceStarts"], apart := false, laid := [("loop.example/g00565/impl.pieceStarts", laid_loop_example_g00565_impl_pieceStarts)], narrowed := true }
def FnExactClimbSlotUptoSaid : Prop := fnExactClimbSlotUptoRow.holds Tryd.pinned (OpenSpec.upto fnExactClimbSlotSpec)

/-- 'laws.FnExactAcceptSlot', WHERE WHAT IT READS IS OF BULK AT MOST 1048576: true; the input reads as it did. -/
def fnExactAcceptSlotUptoRow : OpenClaim := { program := "ytjjddjohckcmbaadoor", sum := "527dc417f024a65eada489e584125f5968090a84c61c1a2bc6bd1aef112a242f", func := "loop.example/g00565/laws.FnExactAcceptSlot", spec := "fnExactAcceptSlot", named := ["loop.example/g00565/impl.pieceStarts"], apart := false, laid := [("loop.example/g00565/impl.pieceStarts", laid_loop_example_g00565_impl_pieceStarts)], narrowed := true }
def FnExactAcceptSlotUptoSaid : Prop := fnExactAcceptSlotUptoRow.holds Tryd.pinned (OpenSpec.upto fnExactAcceptSlotSpec)

/-- 'laws.FnExactMapClash', WHERE WHAT IT READS IS OF BULK AT MOST 1048576: true; the input reads as it did. -/
def fnExactMapClashUptoRow : OpenClaim := { program := "ytjjddjohckcmbaadoor", sum := "527dc417f024a65eada489e584125f5968090a84c61c1a2bc6bd1aef112a242f", func := "loop.example/g00565/laws.FnExactMapClash", spec := "fnExactMapClash", unfollowed := true, recurses := true, named := ["loop.example/g00565/impl.pieceStarts"], apart := false, laid := [("loop.example/g00565/impl.pieceStarts", laid_loop_example_g00565_impl_pieceStarts)], narrowed := true }
def FnExactMapClashUptoSaid : Prop := fnExactMapClashUptoRow.holds Tryd.pinned (OpenSpec.upto fnExactMapClashSpec)

end Rows
end Go.Proofs.YtjjddjohckcmbaaDoor
