/-
  NARROWER THAN 'FOR EVERY INPUT', by the rows' own cells (each row's printed sentence says how): FnEvents: laid · FnPaths: laid · FnRoots: laid · FnExactRootOf: laid · FnExactPathOf: laid.
  DERIVED. THE GIVEN ROWS OF THIS SEAT. 5 by the template 'for every input the law returns true; each argument reads behind the call as it read before'; 0 by the template 'total and deterministic' (their statements: YtjiamihidnofmaaDoorTotals.lean).
  GIVEN WITH THE SEED: the statements are not yours to turn. If you find one false, say at which input.
  Laid BY PROGRAM, IN A SANDBOX (cutbox-rows.mjs): the forced cells as the released guide's own fill.sh prints them over the translation 20ad9ebe4cb6b648… (all of the seat's roots in one cut). By AI agents, Wed Nov 11 2026. No macro, syntax, notation, axiom, sorry.
-/
import Derived.Test.YtjiamihidnofmaaDoorChecked
import GoSem.Claim
import GoSem.ClaimJoined
import GoSem.ClaimMapViews
import Derived.JoinedTies
import Derived.KernelRfl
namespace Go.Proofs.YtjiamihidnofmaaDoor
/- THE CELL 'sum', in the pinned program and in every row, IS THE sha256 OF THE DUMP (.gsa) THAT YtjiamihidnofmaaDoorProg.lean LOADS. Nothing in Lean hashes anything: it is a label: what it is worth is what the hold of that sum in a sandbox is worth. -/
noncomputable def Tryd.pinned : Pinned := { name := "ytjiamihidnofmaadoor", sum := "20ad9ebe4cb6b648d45f7ff8faad6c45ab0d009aa1722b77138ec8de9ae312e2", checked := Tryd.checked }
namespace Rows
def none {H : Type} : Left H := { results := [], args := [] }

/- WHAT THE LISTED PACKAGE-LEVEL VARIABLES READ AS WHEN THE CALL BEGINS. Each datum BY PROGRAM (the guide's laid-datum.mjs) off the statement by which the dump's own 'gosem.cut.vars' lays the variable. In a bare row this is a premise. The card (YtjiamihidnofmaaDoorCards.lean) ties it to the program's text. -/
def laid_loop_example_g00565_impl_pieceStarts {H : Type} : DataW H := .agg [.lit (.int .u8 0), .lit (.int .u8 1), .lit (.int .u8 2)]

/-- 'laws.FnEvents': WHATEVER THE INPUT: true; the input reads as it did. -/
def fnEventsSpec : ChangeSpec := { name := "fnEvents", vars := ["loop.example/g00565/impl.pieceStarts"], fn := fun _ => fun
  | [d, g1] => { results := [.lit (.bool true)], args := [d], vars := [g1] }
  | _ => none }
def fnEventsRow : OpenClaim := { program := "ytjiamihidnofmaadoor", sum := "20ad9ebe4cb6b648d45f7ff8faad6c45ab0d009aa1722b77138ec8de9ae312e2", func := "loop.example/g00565/laws.FnEvents", spec := "fnEvents", named := ["loop.example/g00565/impl.pieceStarts"], apart := false, laid := [("loop.example/g00565/impl.pieceStarts", laid_loop_example_g00565_impl_pieceStarts)] }
def FnEventsSaid : Prop := fnEventsRow.holds Tryd.pinned (OpenSpec.ofChange fnEventsSpec)

/-- ITS FALSE NEIGHBOUR: 'it returns false'. Refute it at one input. -/
def fnEventsWrong : ChangeSpec := { name := "fnEvents", vars := ["loop.example/g00565/impl.pieceStarts"], fn := fun _ => fun
  | [d, g1] => { results := [.lit (.bool false)], args := [d], vars := [g1] }
  | _ => none }
def FnEventsWrongFalsely : Prop := fnEventsRow.holds Tryd.pinned (OpenSpec.ofChange fnEventsWrong)

/-- 'laws.FnPaths': WHATEVER THE INPUT: true; the input reads as it did. -/
def fnPathsSpec : ChangeSpec := { name := "fnPaths", vars := ["loop.example/g00565/impl.pieceStarts"], fn := fun _ => fun
  | [d, g1] => { results := [.lit (.bool true)], args := [d], vars := [g1] }
  | _ => none }
def fnPathsRow : OpenClaim := { program := "ytjiamihidnofmaadoor", sum := "20ad9ebe4cb6b648d45f7ff8faad6c45ab0d009aa1722b77138ec8de9ae312e2", func := "loop.example/g00565/laws.FnPaths", spec := "fnPaths", unfollowed := true, recurses := true, named := ["loop.example/g00565/impl.pieceStarts"], apart := false, laid := [("loop.example/g00565/impl.pieceStarts", laid_loop_example_g00565_impl_pieceStarts)] }
def FnPathsSaid : Prop := fnPathsRow.holds Tryd.pinned (OpenSpec.ofChange fnPathsSpec)

/-- ITS FALSE NEIGHBOUR: 'it returns false'. Refute it at one input. -/
def fnPathsWrong : ChangeSpec := { name := "fnPaths", vars := ["loop.example/g00565/impl.pieceStarts"], fn := fun _ => fun
  | [d, g1] => { results := [.lit (.bool false)], args := [d], vars := [g1] }
  | _ => none }
def FnPathsWrongFalsely : Prop := fnPathsRow.holds Tryd.pinned (OpenSpec.ofChange fnPathsWrong)

/-- 'laws.FnRoots': WHATEVER THE INPUT: true; the input reads as it did. -/
def fnRootsSpec : ChangeSpec := { name := "fnRoots", vars := ["loop.example/g00565/impl.pieceStarts"], fn := fun _ => fun
  | [d, g1] => { results := [.lit (.bool true)], args := [d], vars := [g1] }
  | _ => none }
def fnRootsRow : OpenClaim := { program := "ytjiamihidnofmaadoor", sum := "20ad9ebe4cb6b648d45f7ff8faad6c45ab0d009aa1722b77138ec8de9ae312e2", func := "loop.example/g00565/laws.FnRoots", spec := "fnRoots", unfollowed := true, recurses := true, named := ["loop.example/g00565/impl.pieceStarts"], apart := false, laid := [("loop.example/g00565/impl.pieceStarts", laid_loop_example_g00565_impl_pieceStarts)] }
def FnRootsSaid : Prop := fnRootsRow.holds Tryd.pinned (OpenSpec.ofChange fnRootsSpec)

/-- ITS FALSE NEIGHBOUR: 'it returns false'. Refute it at one input. -/
def fnRootsWrong : ChangeSpec := { name := "fnRoots", vars := ["loop.example/g00565/impl.pieceStarts"], fn := fun _ => fun
  | [d, g1] => { results := [.lit (.bool false)], args := [d], vars := [g1] }
  | _ => none }
def FnRootsWrongFalsely : Prop := fnRootsRow.holds Tryd.pinned (OpenSpec.ofChange fnRootsWrong)

/-- 'laws.FnExactRootOf': WHATEVER THE INPUT: true; the input reads as it did. -/
def fnExactRootOfSpec : ChangeSpec := { name := "fnExactRootOf", vars := ["loop.example/g00565/impl.pieceStarts"], fn := fun _ => fun
  | [d, g1] => { results := [.lit (.bool true)], args := [d], vars := [g1] }
  | _ => none }
def fnExactRootOfRow : OpenClaim := { program := "ytjiamihidnofmaadoor", sum := "20ad9ebe4cb6b648d45f7ff8faad6c45ab0d009aa1722b77138ec8de9ae312e2", func := "loop.example/g00565/laws.FnExactRootOf", spec := "fnExactRootOf", unfollowed := true, recurses := true, named := ["loop.example/g00565/impl.pieceStarts"], apart := false, laid := [("loop.example/g00565/impl.pieceStarts", laid_loop_example_g00565_impl_pieceStarts)] }
def FnExactRootOfSaid : Prop := fnExactRootOfRow.holds Tryd.pinned (OpenSpec.ofChange fnExactRootOfSpec)

/-- ITS FALSE NEIGHBOUR: 'it returns false'. Refute it at one input. -/
def fnExactRootOfWrong : ChangeSpec := { name := "fnExactRootOf", vars := ["loop.example/g00565/impl.pieceStarts"], fn := fun _ => fun
  | [d, g1] => { results := [.lit (.bool false)], args := [d], vars := [g1] }
  | _ => none }
def FnExactRootOfWrongFalsely : Prop := fnExactRootOfRow.holds Tryd.pinned (OpenSpec.ofChange fnExactRootOfWrong)

/-- 'laws.FnExactPathOf': WHATEVER THE INPUT: true; the input reads as it did. -/
def fnExactPathOfSpec : ChangeSpec := { name := "fnExactPathOf", vars := ["loop.example/g00565/impl.pieceStarts"], fn := fun _ => fun
  | [d1, d2, g1] => { results := [.lit (.bool true)], args := [d1, d2], vars := [g1] }
  | _ => none }
def fnExactPathOfRow : OpenClaim := { program := "ytjiamihidnofmaadoor", sum := "20ad9ebe4cb6b648d45f7ff8faad6c45ab0d009aa1722b77138ec8de9ae312e2", func := "loop.example/g00565/laws.FnExactPathOf", spec := "fnExactPathOf", unfollowed := true, recurses := true, named := ["loop.example/g00565/impl.pieceStarts"], apart := false, laid := [("loop.example/g00565/impl.pieceStarts", laid_loop_example_g00565_impl_pieceStarts)] }
def FnExactPathOfSaid : Prop := fnExactPathOfRow.holds Tryd.pinned (OpenSpec.ofChange fnExactPathOfSpec)

/-- ITS FALSE NEIGHBOUR: 'it returns false'. Refute it at one input. -/
def fnExactPathOfWrong : ChangeSpec := { name := "fnExactPathOf", vars := ["loop.example/g00565/impl.pieceStarts"], fn := fun _ => fun
  | [d1, d2, g1] => { results := [.lit (.bool false)], args := [d1, d2], vars := [g1] }
  | _ => none }
def FnExactPathOfWrongFalsely : Prop := fnExactPathOfRow.holds Tryd.pinned (OpenSpec.ofChange fnExactPathOfWrong)

/- THE SECOND FORM. 'bulk': how many values and letters a reading holds, each counted each time it is reached (what is shared counts as often as it is met; a slice's spare places count too). A statement '..UptoSaid' is the law's where the arguments, and the package variables that the reading takes, are together of bulk at most 1048576: NARROWER than '..Said'. Prove '..Said' where nothing that the law and all that it calls make is longer than what came in: it says more and counts as full. Else prove '..UptoSaid'. A law counts once. -/
mutual
def uptoBulk {H : Type} : DataW H → Nat
  | .lit (.string bytes) => bytes.length + 1
  | .lit _ => 1
  | .nil => 1
  | .ptr d => uptoBulk d + 1
  | .slice elems spare => uptoBulkAll elems + uptoBulkAll spare + 1
  | .agg parts => uptoBulkAll parts + 1
  | .iface _ d => uptoBulk d + 1
  | .map entries => uptoBulkEntries entries + 1
  | .held _ => 1
def uptoBulkAll {H : Type} : List (DataW H) → Nat
  | [] => 0
  | d :: r => uptoBulk d + uptoBulkAll r
def uptoBulkEntries {H : Type} : List (Lit × DataW H) → Nat
  | [] => 0
  | x :: r => uptoBulkEntry x + uptoBulkEntries r
def uptoBulkEntry {H : Type} : Lit × DataW H → Nat
  | (.string bytes, d) => bytes.length + uptoBulk d + 1
  | (_, d) => uptoBulk d + 1
 end
def uptoSmall : (H : Type) → List (DataW H) → Bool := fun _ ds => decide (uptoBulkAll ds ≤ 1048576)
def OpenSpec.upto (s : _root_.Go.ChangeSpec) : _root_.Go.OpenSpec := { _root_.Go.OpenSpec.ofChange s with cond := some uptoSmall }

/-- 'laws.FnEvents', WHERE WHAT IT READS IS OF BULK AT MOST 1048576: true; the input reads as it did. -/
def fnEventsUptoRow : OpenClaim := { program := "ytjiamihidnofmaadoor", sum := "20ad9ebe4cb6b648d45f7ff8faad6c45ab0d009aa1722b77138ec8de9ae312e2", func := "loop.example/g00565/laws.FnEvents", spec := "fnEvents", named := ["loop.example/g00565/impl.pieceStarts"], apart := false, laid := [("loop.example/g00565/impl.pieceStarts", laid_loop_example_g00565_impl_pieceStarts)], narrowed := true }
def FnEventsUptoSaid : Prop := fnEventsUptoRow.holds Tryd.pinned (OpenSpec.upto fnEventsSpec)

/-- 'laws.FnPaths', WHERE WHAT IT READS IS OF BULK AT MOST 1048576: true; the input reads as it did. -/
def fnPathsUptoRow : OpenClaim := { program := "ytjiamihidnofmaadoor", sum := "20ad9ebe4cb6b648d45f7ff8faad6c45ab0d009aa1722b77138ec8de9ae312e2", func := "loop.example/g00565/laws.FnPaths", spec := "fnPaths", unfollowed := true, recurses := true, named := ["loop.example/g00565/impl.pieceStarts"], apart := false, laid := [("loop.example/g00565/impl.pieceStarts", laid_loop_example_g00565_impl_pieceStarts)], narrowed := true }
def FnPathsUptoSaid : Prop := fnPathsUptoRow.holds Tryd.pinned (OpenSpec.upto fnPathsSpec)

/-- 'laws.FnRoots', WHERE WHAT IT READS IS OF BULK AT MOST 1048576: true; the input reads as it did. -/
def fnRootsUptoRow : OpenClaim := { program := "ytjiamihidnofmaadoor", sum := "20ad9ebe4cb6b648d45f7ff8faad6c45ab0d009aa1722b77138ec8de9ae312e2", func := "loop.example/g00565/laws.FnRoots", spec := "fnRoots", unfollowed := true, recurses := true, named := ["loop.example/g00565/impl.pieceStarts"], apart := false, laid := [("loop.example/g00565/impl.pieceStarts", laid_loop_example_g00565_impl_pieceStarts)], narrowed := true }
def FnRootsUptoSaid : Prop := fnRootsUptoRow.holds Tryd.pinned (OpenSpec.upto fnRootsSpec)

/-- 'laws.FnExactRootOf', WHERE WHAT IT READS IS OF BULK AT MOST 1048576: true; the input reads as it did. -/
def fnExactRootOfUptoRow : OpenClaim := { program := "ytjiamihidnofmaadoor", sum := "20ad9ebe4cb6b648d45f7ff8faad6c45ab0d009aa1722b77138ec8de9ae312e2", func := "loop.example/g00565/laws.FnExactRootOf", spec := "fnExactRootOf", unfollowed := true, recurses := true, named := ["loop.example/g00565/impl.pieceStarts"], apart := false, laid := [("loop.example/g00565/impl.pieceStarts", laid_loop_example_g00565_impl_pieceStarts)], narrowed := true }
def FnExactRootOfUptoSaid : Prop := fnExactRootOfUptoRow.holds Tryd.pinned (OpenSpec.upto fnExactRootOfSpec)

/-- 'laws.FnExactPathOf', WHERE WHAT IT READS IS OF BULK AT MOST 1048576: true; the input reads as it did. -/
def fnExactPathOfUptoRow : OpenClaim := { program := "ytjiamihidnofmaadoor", sum := "20ad9ebe4cb6b648d45f7ff8faad6c45ab0d009aa1722b77138ec8de9ae312e2", func := "loop.example/g00565/laws.FnExactPathOf", spec := "fnExactPathOf", unfollowed := true, recurses := true, named := ["loop.example/g00565/impl.pieceStarts"], apart := false, laid := [("loop.example/g00565/impl.pieceStarts", laid_loop_example_g00565_impl_pieceStarts)], narrowed := true }
def FnExactPathOfUptoSaid : Prop := fnExactPathOfUptoRow.holds Tryd.pinned (OpenSpec.upto fnExactPathOfSpec)

end Rows
end Go.Proofs.YtjiamihidnofmaaDoor
