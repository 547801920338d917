/-
  NARROWER THAN 'FOR EVERY INPUT', by the rows' own cells (each row's printed sentence says how): FnPaths: laid · FnRoots: laid · FnExactRootOf: laid · FnExactPathOf: laid · FnExactClimbPath: laid · FnExactAcceptLeaf: laid · FnGrowths: laid · FnExactGrowthOf: laid · FnExactGrowRoots: laid · FnExactAcceptGrowth: laid.
  DERIVED. THE GIVEN ROWS OF THIS SEAT. 10 by the template 'for every input the law returns true; each argument reads behind the call as it read before'; 0 by the template 'total and deterministic' (their statements: YtkjhcblfkpknlaaDoorTotals.lean).
  GIVEN WITH THE SEED: the statements are not yours to turn. If you find one false, say at which input.
  Laid BY PROGRAM, IN A SANDBOX (cutbox-rows.mjs): the forced cells as the released guide's own fill.sh prints them over the translation 3894e433eb12c2b5… (all of the seat's roots in one cut). By AI agents, Wed Nov 11 2026. No macro, syntax, notation, axiom, sorry.
-/
import Derived.Test.YtkjhcblfkpknlaaDoorChecked
import GoSem.Claim
import GoSem.ClaimJoined
import GoSem.ClaimMapViews
import Derived.JoinedTies
import Derived.KernelRfl
namespace Go.Proofs.YtkjhcblfkpknlaaDoor
/- THE CELL 'sum', in the pinned program and in every row, IS THE sha256 OF THE DUMP (.gsa) THAT YtkjhcblfkpknlaaDoorProg.lean LOADS. Nothing in Lean hashes anything: it is a label: what it is worth is what the hold of that sum in a sandbox is worth. -/
noncomputable def Tryd.pinned : Pinned := { name := "ytkjhcblfkpknlaadoor", sum := "3894e433eb12c2b5170af43531710789e68ac746057b6b35ec63b3ce5a784d04", checked := Tryd.checked }
namespace Rows
def none {H : Type} : Left H := { results := [], args := [] }

/- WHAT THE LISTED PACKAGE-LEVEL VARIABLES READ AS WHEN THE CALL BEGINS. Each datum BY PROGRAM (the guide's laid-datum.mjs) off the statement by which the dump's own 'gosem.cut.vars' lays the variable. In a bare row this is a premise. The card (YtkjhcblfkpknlaaDoorCards.lean) ties it to the program's text. -/
def laid_loop_example_g00565_impl_pieceStarts {H : Type} : DataW H := .agg [.lit (.int .u8 0), .lit (.int .u8 1), .lit (.int .u8 2), .lit (.int .u8 3), .lit (.int .u8 4), .lit (.int .u8 5)]

/-- 'laws.FnPaths': WHATEVER THE INPUT: true; the input reads as it did. -/
def fnPathsSpec : ChangeSpec := { name := "fnPaths", vars := ["loop.example/g00565/impl.pieceStarts"], fn := fun _ => fun
  | [d, g1] => { results := [.lit (.bool true)], args := [d], vars := [g1] }
  | _ => none }
def fnPathsRow : OpenClaim := { program := "ytkjhcblfkpknlaadoor", sum := "3894e433eb12c2b5170af43531710789e68ac746057b6b35ec63b3ce5a784d04", func := "loop.example/g00565/laws.FnPaths", spec := "fnPaths", unfollowed := true, recurses := true, named := ["loop.example/g00565/impl.pieceStarts"], apart := false, laid := [("loop.example/g00565/impl.pieceStarts", laid_loop_example_g00565_impl_pieceStarts)] }
def FnPathsSaid : Prop := fnPathsRow.holds Tryd.pinned (OpenSpec.ofChange fnPathsSpec)

/-- ITS FALSE NEIGHBOUR: 'it returns false'. Refute it at one input. -/
def fnPathsWrong : ChangeSpec := { name := "fnPaths", vars := ["loop.example/g00565/impl.pieceStarts"], fn := fun _ => fun
  | [d, g1] => { results := [.lit (.bool false)], args := [d], vars := [g1] }
  | _ => none }
def FnPathsWrongFalsely : Prop := fnPathsRow.holds Tryd.pinned (OpenSpec.ofChange fnPathsWrong)

/-- 'laws.FnRoots': WHATEVER THE INPUT: true; the input reads as it did. -/
def fnRootsSpec : ChangeSpec := { name := "fnRoots", vars := ["loop.example/g00565/impl.pieceStarts"], fn := fun _ => fun
  | [d, g1] => { results := [.lit (.bool true)], args := [d], vars := [g1] }
  | _ => none }
def fnRootsRow : OpenClaim := { program := "ytkjhcblfkpknlaadoor", sum := "3894e433eb12c2b5170af43531710789e68ac746057b6b35ec63b3ce5a784d04", func := "loop.example/g00565/laws.FnRoots", spec := "fnRoots", unfollowed := true, recurses := true, named := ["loop.example/g00565/impl.pieceStarts"], apart := false, laid := [("loop.example/g00565/impl.pieceStarts", laid_loop_example_g00565_impl_pieceStarts)] }
def FnRootsSaid : Prop := fnRootsRow.holds Tryd.pinned (OpenSpec.ofChange fnRootsSpec)

/-- ITS FALSE NEIGHBOUR: 'it returns false'. Refute it at one input. -/
def fnRootsWrong : ChangeSpec := { name := "fnRoots", vars := ["loop.example/g00565/impl.pieceStarts"], fn := fun _ => fun
  | [d, g1] => { results := [.lit (.bool false)], args := [d], vars := [g1] }
  | _ => none }
def FnRootsWrongFalsely : Prop := fnRootsRow.holds Tryd.pinned (OpenSpec.ofChange fnRootsWrong)

/-- 'laws.FnExactRootOf': WHATEVER THE INPUT: true; the input reads as it did. -/
def fnExactRootOfSpec : ChangeSpec := { name := "fnExactRootOf", vars := ["loop.example/g00565/impl.pieceStarts"], fn := fun _ => fun
  | [d, g1] => { results := [.lit (.bool true)], args := [d], vars := [g1] }
  | _ => none }
def fnExactRootOfRow : OpenClaim := { program := "ytkjhcblfkpknlaadoor", sum := "3894e433eb12c2b5170af43531710789e68ac746057b6b35ec63b3ce5a784d04", func := "loop.example/g00565/laws.FnExactRootOf", spec := "fnExactRootOf", unfollowed := true, recurses := true, named := ["loop.example/g00565/impl.pieceStarts"], apart := false, laid := [("loop.example/g00565/impl.pieceStarts", laid_loop_example_g00565_impl_pieceStarts)] }
def FnExactRootOfSaid : Prop := fnExactRootOfRow.holds Tryd.pinned (OpenSpec.ofChange fnExactRootOfSpec)

/-- ITS FALSE NEIGHBOUR: 'it returns false'. Refute it at one input. -/
def fnExactRootOfWrong : ChangeSpec := { name := "fnExactRootOf", vars := ["loop.example/g00565/impl.pieceStarts"], fn := fun _ => fun
  | [d, g1] => { results := [.lit (.bool false)], args := [d], vars := [g1] }
  | _ => none }
def FnExactRootOfWrongFalsely : Prop := fnExactRootOfRow.holds Tryd.pinned (OpenSpec.ofChange fnExactRootOfWrong)

/-- 'laws.FnExactPathOf': WHATEVER THE INPUT: true; the input reads as it did. -/
def fnExactPathOfSpec : ChangeSpec := { name := "fnExactPathOf", vars := ["loop.example/g00565/impl.pieceStarts"], fn := fun _ => fun
  | [d1, d2, g1] => { results := [.lit (.bool true)], args := [d1, d2], vars := [g1] }
  | _ => none }
def fnExactPathOfRow : OpenClaim := { program := "ytkjhcblfkpknlaadoor", sum := "3894e433eb12c2b5170af43531710789e68ac746057b6b35ec63b3ce5a784d04", func := "loop.example/g00565/laws.FnExactPathOf", spec := "fnExactPathOf", unfollowed := true, recurses := true, named := ["loop.example/g00565/impl.pieceStarts"], apart := false, laid := [("loop.example/g00565/impl.pieceStarts", laid_loop_example_g00565_impl_pieceStarts)] }
def FnExactPathOfSaid : Prop := fnExactPathOfRow.holds Tryd.pinned (OpenSpec.ofChange fnExactPathOfSpec)

/-- ITS FALSE NEIGHBOUR: 'it returns false'. Refute it at one input. -/
def fnExactPathOfWrong : ChangeSpec := { name := "fnExactPathOf", vars := ["loop.example/g00565/impl.pieceStarts"], fn := fun _ => fun
  | [d1, d2, g1] => { results := [.lit (.bool false)], args := [d1, d2], vars := [g1] }
  | _ => none }
def FnExactPathOfWrongFalsely : Prop := fnExactPathOfRow.holds Tryd.pinned (OpenSpec.ofChange fnExactPathOfWrong)

/-- 'laws.FnExactClimbPath': WHATEVER THE INPUT: true; the input reads as it did. -/
def fnExactClimbPathSpec : ChangeSpec := { name := "fnExactClimbPath", vars := ["loop.example/g00565/impl.pieceStarts"], fn := fun _ => fun
  | [d1, d2, d3, d4, g1] => { results := [.lit (.bool true)], args := [d1, d2, d3, d4], vars := [g1] }
  | _ => none }
def fnExactClimbPathRow : OpenClaim := { program := "ytkjhcblfkpknlaadoor", sum := "3894e433eb12c2b5170af43531710789e68ac746057b6b35ec63b3ce5a784d04", func := "loop.example/g00565/laws.FnExactClimbPath", spec := "fnExactClimbPath", recurses := true, named := ["loop.example/g00565/impl.pieceStarts"], apart := false, laid := [("loop.example/g00565/impl.pieceStarts", laid_loop_example_g00565_impl_pieceStarts)] }
def FnExactClimbPathSaid : Prop := fnExactClimbPathRow.holds Tryd.pinned (OpenSpec.ofChange fnExactClimbPathSpec)

/-- ITS FALSE NEIGHBOUR: 'it returns false'. Refute it at one input. -/
def fnExactClimbPathWrong : ChangeSpec := { name := "fnExactClimbPath", vars := ["loop.example/g00565/impl.pieceStarts"], fn := fun _ => fun
  | [d1, d2, d3, d4, g1] => { results := [.lit (.bool false)], args := [d1, d2, d3, d4], vars := [g1] }
  | _ => none }
def FnExactClimbPathWrongFalsely : Prop := fnExactClimbPathRow.holds Tryd.pinned (OpenSpec.ofChange fnExactClimbPathWrong)

/-- 'laws.FnExactAcceptLeaf': WHATEVER THE INPUT: true; the input reads as it did. -/
def fnExactAcceptLeafSpec : ChangeSpec := { name := "fnExactAcceptLeaf", vars := ["loop.example/g00565/impl.pieceStarts"], fn := fun _ => fun
  | [d1, d2, d3, d4, d5, g1] => { results := [.lit (.bool true)], args := [d1, d2, d3, d4, d5], vars := [g1] }
  | _ => none }
def fnExactAcceptLeafRow : OpenClaim := { program := "ytkjhcblfkpknlaadoor", sum := "3894e433eb12c2b5170af43531710789e68ac746057b6b35ec63b3ce5a784d04", func := "loop.example/g00565/laws.FnExactAcceptLeaf", spec := "fnExactAcceptLeaf", recurses := true, named := ["loop.example/g00565/impl.pieceStarts"], apart := false, laid := [("loop.example/g00565/impl.pieceStarts", laid_loop_example_g00565_impl_pieceStarts)] }
def FnExactAcceptLeafSaid : Prop := fnExactAcceptLeafRow.holds Tryd.pinned (OpenSpec.ofChange fnExactAcceptLeafSpec)

/-- ITS FALSE NEIGHBOUR: 'it returns false'. Refute it at one input. -/
def fnExactAcceptLeafWrong : ChangeSpec := { name := "fnExactAcceptLeaf", vars := ["loop.example/g00565/impl.pieceStarts"], fn := fun _ => fun
  | [d1, d2, d3, d4, d5, g1] => { results := [.lit (.bool false)], args := [d1, d2, d3, d4, d5], vars := [g1] }
  | _ => none }
def FnExactAcceptLeafWrongFalsely : Prop := fnExactAcceptLeafRow.holds Tryd.pinned (OpenSpec.ofChange fnExactAcceptLeafWrong)

/-- 'laws.FnGrowths': WHATEVER THE INPUT: true; the input reads as it did. -/
def fnGrowthsSpec : ChangeSpec := { name := "fnGrowths", vars := ["loop.example/g00565/impl.pieceStarts"], fn := fun _ => fun
  | [d, g1] => { results := [.lit (.bool true)], args := [d], vars := [g1] }
  | _ => none }
def fnGrowthsRow : OpenClaim := { program := "ytkjhcblfkpknlaadoor", sum := "3894e433eb12c2b5170af43531710789e68ac746057b6b35ec63b3ce5a784d04", func := "loop.example/g00565/laws.FnGrowths", spec := "fnGrowths", unfollowed := true, recurses := true, named := ["loop.example/g00565/impl.pieceStarts"], apart := false, laid := [("loop.example/g00565/impl.pieceStarts", laid_loop_example_g00565_impl_pieceStarts)] }
def FnGrowthsSaid : Prop := fnGrowthsRow.holds Tryd.pinned (OpenSpec.ofChange fnGrowthsSpec)

/-- ITS FALSE NEIGHBOUR: 'it returns false'. Refute it at one input. -/
def fnGrowthsWrong : ChangeSpec := { name := "fnGrowths", vars := ["loop.example/g00565/impl.pieceStarts"], fn := fun _ => fun
  | [d, g1] => { results := [.lit (.bool false)], args := [d], vars := [g1] }
  | _ => none }
def FnGrowthsWrongFalsely : Prop := fnGrowthsRow.holds Tryd.pinned (OpenSpec.ofChange fnGrowthsWrong)

/-- 'laws.FnExactGrowthOf': WHATEVER THE INPUT: true; the input reads as it did. -/
def fnExactGrowthOfSpec : ChangeSpec := { name := "fnExactGrowthOf", vars := ["loop.example/g00565/impl.pieceStarts"], fn := fun _ => fun
  | [d1, d2, g1] => { results := [.lit (.bool true)], args := [d1, d2], vars := [g1] }
  | _ => none }
def fnExactGrowthOfRow : OpenClaim := { program := "ytkjhcblfkpknlaadoor", sum := "3894e433eb12c2b5170af43531710789e68ac746057b6b35ec63b3ce5a784d04", func := "loop.example/g00565/laws.FnExactGrowthOf", spec := "fnExactGrowthOf", unfollowed := true, recurses := true, named := ["loop.example/g00565/impl.pieceStarts"], apart := false, laid := [("loop.example/g00565/impl.pieceStarts", laid_loop_example_g00565_impl_pieceStarts)] }
def FnExactGrowthOfSaid : Prop := fnExactGrowthOfRow.holds Tryd.pinned (OpenSpec.ofChange fnExactGrowthOfSpec)

/-- ITS FALSE NEIGHBOUR: 'it returns false'. Refute it at one input. -/
def fnExactGrowthOfWrong : ChangeSpec := { name := "fnExactGrowthOf", vars := ["loop.example/g00565/impl.pieceStarts"], fn := fun _ => fun
  | [d1, d2, g1] => { results := [.lit (.bool false)], args := [d1, d2], vars := [g1] }
  | _ => none }
def FnExactGrowthOfWrongFalsely : Prop := fnExactGrowthOfRow.holds Tryd.pinned (OpenSpec.ofChange fnExactGrowthOfWrong)

/-- 'laws.FnExactGrowRoots': WHATEVER THE INPUT: true; the input reads as it did. -/
def fnExactGrowRootsSpec : ChangeSpec := { name := "fnExactGrowRoots", vars := ["loop.example/g00565/impl.pieceStarts"], fn := fun _ => fun
  | [d1, d2, d3, d4, g1] => { results := [.lit (.bool true)], args := [d1, d2, d3, d4], vars := [g1] }
  | _ => none }
def fnExactGrowRootsRow : OpenClaim := { program := "ytkjhcblfkpknlaadoor", sum := "3894e433eb12c2b5170af43531710789e68ac746057b6b35ec63b3ce5a784d04", func := "loop.example/g00565/laws.FnExactGrowRoots", spec := "fnExactGrowRoots", recurses := true, named := ["loop.example/g00565/impl.pieceStarts"], apart := false, laid := [("loop.example/g00565/impl.pieceStarts", laid_loop_example_g00565_impl_pieceStarts)] }
def FnExactGrowRootsSaid : Prop := fnExactGrowRootsRow.holds Tryd.pinned (OpenSpec.ofChange fnExactGrowRootsSpec)

/-- ITS FALSE NEIGHBOUR: 'it returns false'. Refute it at one input. -/
def fnExactGrowRootsWrong : ChangeSpec := { name := "fnExactGrowRoots", vars := ["loop.example/g00565/impl.pieceStarts"], fn := fun _ => fun
  | [d1, d2, d3, d4, g1] => { results := [.lit (.bool false)], args := [d1, d2, d3, d4], vars := [g1] }
  | _ => none }
def FnExactGrowRootsWrongFalsely : Prop := fnExactGrowRootsRow.holds Tryd.pinned (OpenSpec.ofChange fnExactGrowRootsWrong)

/-- 'laws.FnExactAcceptGrowth': WHATEVER THE INPUT: true; the input reads as it did. -/
def fnExactAcceptGrowthSpec : ChangeSpec := { name := "fnExactAcceptGrowth", vars := ["loop.example/g00565/impl.pieceStarts"], fn := fun _ => fun
  | [d1, d2, d3, d4, d5, g1] => { results := [.lit (.bool true)], args := [d1, d2, d3, d4, d5], vars := [g1] }
  | _ => none }
def fnExactAcceptGrowthRow : OpenClaim := { program := "ytkjhcblfkpknlaadoor", sum := "3894e433eb12c2b5170af43531710789e68ac746057b6b35ec63b3ce5a784d04", func := "loop.example/g00565/laws.FnExactAcceptGrowth", spec := "fnExactAcceptGrowth", recurses := true, named := ["loop.example/g00565/impl.pieceStarts"], apart := false, laid := [("loop.example/g00565/impl.pieceStarts", laid_loop_example_g00565_impl_pieceStarts)] }
def FnExactAcceptGrowthSaid : Prop := fnExactAcceptGrowthRow.holds Tryd.pinned (OpenSpec.ofChange fnExactAcceptGrowthSpec)

/-- ITS FALSE NEIGHBOUR: 'it returns false'. Refute it at one input. -/
def fnExactAcceptGrowthWrong : ChangeSpec := { name := "fnExactAcceptGrowth", vars := ["loop.example/g00565/impl.pieceStarts"], fn := fun _ => fun
  | [d1, d2, d3, d4, d5, g1] => { results := [.lit (.bool false)], args := [d1, d2, d3, d4, d5], vars := [g1] }
  | _ => none }
def FnExactAcceptGrowthWrongFalsely : Prop := fnExactAcceptGrowthRow.holds Tryd.pinned (OpenSpec.ofChange fnExactAcceptGrowthWrong)

/- THE SECOND FORM. 'bulk': how many values and letters a reading holds, each counted each time it is reached (what is shared counts as often as it is met; a slice's spare places count too). A statement '..UptoSaid' is the law's where the arguments, and the package variables that the reading takes, are together of bulk at most 1048576: NARROWER than '..Said'. Prove '..Said' where nothing that the law and all that it calls make is longer than what came in: it says more and counts as full. Else prove '..UptoSaid'. A law counts once. -/
mutual
def uptoBulk {H : Type} : DataW H → Nat
  | .lit (.string bytes) => bytes.length + 1
  | .lit _ => 1
  | .nil => 1
  | .ptr d => uptoBulk d + 1
  | .slice elems spare => uptoBulkAll elems + uptoBulkAll spare + 1
  | .agg parts => uptoBulkAll parts + 1
  | .iface _ d => uptoBulk d + 1
  | .map entries => uptoBulkEntries entries + 1
  | .held _ => 1
def uptoBulkAll {H : Type} : List (DataW H) → Nat
  | [] => 0
  | d :: r => uptoBulk d + uptoBulkAll r
def uptoBulkEntries {H : Type} : List (Lit × DataW H) → Nat
  | [] => 0
  | x :: r => uptoBulkEntry x + uptoBulkEntries r
def uptoBulkEntry {H : Type} : Lit × DataW H → Nat
  | (.string bytes, d) => bytes.length + uptoBulk d + 1
  | (_, d) => uptoBulk d + 1
 end
def uptoSmall : (H : Type) → List (DataW H) → Bool := fun _ ds => decide (uptoBulkAll ds ≤ 1048576)
def OpenSpec.upto (s : _root_.Go.ChangeSpec) : _root_.Go.OpenSpec := { _root_.Go.OpenSpec.ofChange s with cond := some uptoSmall }

/-- 'laws.FnPaths', WHERE WHAT IT READS IS OF BULK AT MOST 1048576: true; the input reads as it did. -/
def fnPathsUptoRow : OpenClaim := { program := "ytkjhcblfkpknlaadoor", sum := "3894e433eb12c2b5170af43531710789e68ac746057b6b35ec63b3ce5a784d04", func := "loop.example/g00565/laws.FnPaths", spec := "fnPaths", unfollowed := true, recurses := true, named := ["loop.example/g00565/impl.pieceStarts"], apart := false, laid := [("loop.example/g00565/impl.pieceStarts", laid_loop_example_g00565_impl_pieceStarts)], narrowed := true }
def FnPathsUptoSaid : Prop := fnPathsUptoRow.holds Tryd.pinned (OpenSpec.upto fnPathsSpec)

/-- 'laws.FnRoots', WHERE WHAT IT READS IS OF BULK AT MOST 1048576: true; the input reads as it did. -/
def fnRootsUptoRow : OpenClaim := { program := "ytkjhcblfkpknlaadoor", sum := "3894e433eb12c2b5170af43531710789e68ac746057b6b35ec63b3ce5a784d04", func := "loop.example/g00565/laws.FnRoots", spec := "fnRoots", unfollowed := true, recurses := true, named := ["loop.example/g00565/impl.pieceStarts"], apart := false, laid := [("loop.example/g00565/impl.pieceStarts", laid_loop_example_g00565_impl_pieceStarts)], narrowed := true }
def FnRootsUptoSaid : Prop := fnRootsUptoRow.holds Tryd.pinned (OpenSpec.upto fnRootsSpec)

/-- 'laws.FnExactRootOf', WHERE WHAT IT READS IS OF BULK AT MOST 1048576: true; the input reads as it did. -/
def fnExactRootOfUptoRow : OpenClaim := { program := "ytkjhcblfkpknlaadoor", sum := "3894e433eb12c2b5170af43531710789e68ac746057b6b35ec63b3ce5a784d04", func := "loop.example/g00565/laws.FnExactRootOf", spec := "fnExactRootOf", unfollowed := true, recurses := true, named := ["loop.example/g00565/impl.pieceStarts"], apart := false, laid := [("loop.example/g00565/impl.pieceStarts", laid_loop_example_g00565_impl_pieceStarts)], narrowed := true }
def FnExactRootOfUptoSaid : Prop := fnExactRootOfUptoRow.holds Tryd.pinned (OpenSpec.upto fnExactRootOfSpec)

/-- 'laws.FnExactPathOf', WHERE WHAT IT READS IS OF BULK AT MOST 1048576: true; the input reads as it did. -/
def fnExactPathOfUptoRow : OpenClaim := { program := "ytkjhcblfkpknlaadoor", sum := "3894e433eb12c2b5170af43531710789e68ac746057b6b35ec63b3ce5a784d04", func := "loop.example/g00565/laws.FnExactPathOf", spec := "fnExactPathOf", unfollowed := true, recurses := true, named := ["loop.example/g00565/impl.pieceStarts"], apart := false, laid := [("loop.example/g00565/impl.pieceStarts", laid_loop_example_g00565_impl_pieceStarts)], narrowed := true }
def FnExactPathOfUptoSaid : Prop := fnExactPathOfUptoRow.holds Tryd.pinned (OpenSpec.upto fnExactPathOfSpec)

/-- 'laws.FnExactClimbPath', WHERE WHAT IT READS IS OF BULK AT MOST 1048576: true; the input reads as it did. -/
def fnExactClimbPathUptoRow : OpenClaim := { program := "ytkjhcblfkpknlaadoor", sum := "3894e433eb12c2b5170af43531710789e68ac746057b6b35ec63b3ce5a784d04", func := "loop.example/g00565/laws.FnExactClimbPath", spec := "fnExactClimbPath", recurses := true, named := ["loop.example/g00565/impl.pieceStarts"], apart := false, laid := [("loop.example/g00565/impl.pieceStarts", laid_loop_example_g00565_impl_pieceStarts)], narrowed := true }
def FnExactClimbPathUptoSaid : Prop := fnExactClimbPathUptoRow.holds Tryd.pinned (OpenSpec.upto fnExactClimbPathSpec)

/-- 'laws.FnExactAcceptLeaf', WHERE WHAT IT READS IS OF BULK AT MOST 1048576: true; the input reads as it did. -/
def fnExactAcceptLeafUptoRow : OpenClaim := { program := "ytkjhcblfkpknlaadoor", sum := "3894e433eb12c2b5170af43531710789e68ac746057b6b35ec63b3ce5a784d04", func := "loop.example/g00565/laws.FnExactAcceptLeaf", spec := "fnExactAcceptLeaf", recurses := true, named := ["loop.example/g00565/impl.pieceStarts"], apart := false, laid := [("loop.example/g00565/impl.pieceStarts", laid_loop_example_g00565_impl_pieceStarts)], narrowed := true }
def FnExactAcceptLeafUptoSaid : Prop := fnExactAcceptLeafUptoRow.holds Tryd.pinned (OpenSpec.upto fnExactAcceptLeafSpec)

/-- 'laws.FnGrowths', WHERE WHAT IT READS IS OF BULK AT MOST 1048576: true; the input reads as it did. -/
def fnGrowthsUptoRow : OpenClaim := { program := "ytkjhcblfkpknlaadoor", sum := "3894e433eb12c2b5170af43531710789e68ac746057b6b35ec63b3ce5a784d04", func := "loop.example/g00565/laws.FnGrowths", spec := "fnGrowths", unfollowed := true, recurses := true, named := ["loop.example/g00565/impl.pieceStarts"], apart := false, laid := [("loop.example/g00565/impl.pieceStarts", laid_loop_example_g00565_impl_pieceStarts)], narrowed := true }
def FnGrowthsUptoSaid : Prop := fnGrowthsUptoRow.holds Tryd.pinned (OpenSpec.upto fnGrowthsSpec)

/-- 'laws.FnExactGrowthOf', WHERE WHAT IT READS IS OF BULK AT MOST 1048576: true; the input reads as it did. -/
def fnExactGrowthOfUptoRow : OpenClaim := { program := "ytkjhcblfkpknlaadoor", sum := "3894e433eb12c2b5170af43531710789e68ac746057b6b35ec63b3ce5a784d04", func := "loop.example/g00565/laws.FnExactGrowthOf", spec := "fnExactGrowthOf", unfollowed := true, recurses := true, named := ["loop.example/g00565/impl.pieceStarts"], apart := false, laid := [("loop.example/g00565/impl.pieceStarts", laid_loop_example_g00565_impl_pieceStarts)], narrowed := true }
def FnExactGrowthOfUptoSaid : Prop := fnExactGrowthOfUptoRow.holds Tryd.pinned (OpenSpec.upto fnExactGrowthOfSpec)

/-- 'laws.FnExactGrowRoots', WHERE WHAT IT READS IS OF BULK AT MOST 1048576: true; the input reads as it did. -/
def fnExactGrowRootsUptoRow : OpenClaim := { program := "ytkjhcblfkpknlaadoor", sum := "3894e433eb12c2b5170af43531710789e68ac746057b6b35ec63b3ce5a784d04", func := "loop.example/g00565/laws.FnExactGrowRoots", spec := "fnExactGrowRoots", recurses := true, named := ["loop.example/g00565/impl.pieceStarts"], apart := false, laid := [("loop.example/g00565/impl.pieceStarts", laid_loop_example_g00565_impl_pieceStarts)], narrowed := true }
def FnExactGrowRootsUptoSaid : Prop := fnExactGrowRootsUptoRow.holds Tryd.pinned (OpenSpec.upto fnExactGrowRootsSpec)

/-- 'laws.FnExactAcceptGrowth', WHERE WHAT IT READS IS OF BULK AT MOST 1048576: true; the input reads as it did. -/
def fnExactAcceptGrowthUptoRow : OpenClaim := { program := "ytkjhcblfkpknlaadoor", sum := "3894e433eb12c2b5170af43531710789e68ac746057b6b35ec63b3ce5a784d04", func := "loop.example/g00565/laws.FnExactAcceptGrowth", spec := "fnExactAcceptGrowth", recurses := true, named := ["loop.example/g00565/impl.pieceStarts"], apart := false, laid := [("loop.example/g00565/impl.pieceStarts", laid_loop_example_g00565_impl_pieceStarts)], narrowed := true }
def FnExactAcceptGrowthUptoSaid : Prop := fnExactAcceptGrowthUptoRow.holds Tryd.pinned (OpenSpec.upto fnExactAcceptGrowthSpec)

end Rows
end Go.Proofs.YtkjhcblfkpknlaaDoor
