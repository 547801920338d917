/-
  NARROWER THAN 'FOR EVERY INPUT', by the rows' own cells (each row's printed sentence says how): FnExactPackHead: laid · FnExactReadHead: laid · FnExactHeadSum: laid · FnExactSignHead: laid · FnExactCheckHead: laid.
  DERIVED. THE GIVEN ROWS OF THIS SEAT. 5 by the template 'for every input the law returns true; each argument reads behind the call as it read before'; 0 by the template 'total and deterministic' (their statements: YtffidkoejlebeaaDoorTotals.lean).
  GIVEN WITH THE SEED: the statements are not yours to turn. If you find one false, say at which input.
  Laid BY PROGRAM, IN A SANDBOX (cutbox-rows.mjs): the forced cells as the released guide's own fill.sh prints them over the translation ed121a7b0206ffd4… (all of the seat's roots in one cut). By AI agents, Wed Nov 11 2026. No macro, syntax, notation, axiom, sorry.
-/
import Derived.Test.YtffidkoejlebeaaDoorChecked
import GoSem.Claim
import GoSem.ClaimJoined
import GoSem.ClaimMapViews
import Derived.JoinedTies
import Derived.KernelRfl
namespace Go.Proofs.YtffidkoejlebeaaDoor
/- THE CELL 'sum', in the pinned program and in every row, IS THE sha256 OF THE DUMP (.gsa) THAT YtffidkoejlebeaaDoorProg.lean LOADS. Nothing in Lean hashes anything: it is a label: what it is worth is what the hold of that sum in a sandbox is worth. -/
noncomputable def Tryd.pinned : Pinned := { name := "ytffidkoejlebeaadoor", sum := "ed121a7b0206ffd4c2362ce74a8b150f23a5f345b0682eac0aecfda57554cc6d", checked := Tryd.checked }
namespace Rows
def none {H : Type} : Left H := { results := [], args := [] }

/- WHAT THE LISTED PACKAGE-LEVEL VARIABLES READ AS WHEN THE CALL BEGINS. Each datum BY PROGRAM (the guide's laid-datum.mjs) off the statement by which the dump's own 'gosem.cut.vars' lays the variable. In a bare row this is a premise. The card (YtffidkoejlebeaaDoorCards.lean) ties it to the program's text. -/
def laid_loop_example_g00565_impl_pieceStarts {H : Type} : DataW H := .agg [.lit (.int .u8 0), .lit (.int .u8 1), .lit (.int .u8 2), .lit (.int .u8 3), .lit (.int .u8 4), .lit (.int .u8 5)]

/-- 'laws.FnExactPackHead': WHATEVER THE INPUT: true; the input reads as it did. -/
def fnExactPackHeadSpec : ChangeSpec := { name := "fnExactPackHead", vars := ["loop.example/g00565/impl.pieceStarts"], fn := fun _ => fun
  | [d, g1] => { results := [.lit (.bool true)], args := [d], vars := [g1] }
  | _ => none }
def fnExactPackHeadRow : OpenClaim := { program := "ytffidkoejlebeaadoor", sum := "ed121a7b0206ffd4c2362ce74a8b150f23a5f345b0682eac0aecfda57554cc6d", func := "loop.example/g00565/laws.FnExactPackHead", spec := "fnExactPackHead", named := ["loop.example/g00565/impl.pieceStarts"], apart := false, laid := [("loop.example/g00565/impl.pieceStarts", laid_loop_example_g00565_impl_pieceStarts)] }
def FnExactPackHeadSaid : Prop := fnExactPackHeadRow.holds Tryd.pinned (OpenSpec.ofChange fnExactPackHeadSpec)

/-- ITS FALSE NEIGHBOUR: 'it returns false'. Refute it at one input. -/
def fnExactPackHeadWrong : ChangeSpec := { name := "fnExactPackHead", vars := ["loop.example/g00565/impl.pieceStarts"], fn := fun _ => fun
  | [d, g1] => { results := [.lit (.bool false)], args := [d], vars := [g1] }
  | _ => none }
def FnExactPackHeadWrongFalsely : Prop := fnExactPackHeadRow.holds Tryd.pinned (OpenSpec.ofChange fnExactPackHeadWrong)

/-- 'laws.FnExactReadHead': WHATEVER THE INPUT: true; the input reads as it did. -/
def fnExactReadHeadSpec : ChangeSpec := { name := "fnExactReadHead", vars := ["loop.example/g00565/impl.pieceStarts"], fn := fun _ => fun
  | [d, g1] => { results := [.lit (.bool true)], args := [d], vars := [g1] }
  | _ => none }
def fnExactReadHeadRow : OpenClaim := { program := "ytffidkoejlebeaadoor", sum := "ed121a7b0206ffd4c2362ce74a8b150f23a5f345b0682eac0aecfda57554cc6d", func := "loop.example/g00565/laws.FnExactReadHead", spec := "fnExactReadHead", named := ["loop.example/g00565/impl.pieceStarts"], apart := false, laid := [("loop.example/g00565/impl.pieceStarts", laid_loop_example_g00565_impl_pieceStarts)] }
def FnExactReadHeadSaid : Prop := fnExactReadHeadRow.holds Tryd.pinned (OpenSpec.ofChange fnExactReadHeadSpec)

/-- ITS FALSE NEIGHBOUR: 'it returns false'. Refute it at one input. -/
def fnExactReadHeadWrong : ChangeSpec := { name := "fnExactReadHead", vars := ["loop.example/g00565/impl.pieceStarts"], fn := fun _ => fun
  | [d, g1] => { results := [.lit (.bool false)], args := [d], vars := [g1] }
  | _ => none }
def FnExactReadHeadWrongFalsely : Prop := fnExactReadHeadRow.holds Tryd.pinned (OpenSpec.ofChange fnExactReadHeadWrong)

/-- 'laws.FnExactHeadSum': WHATEVER THE INPUT: true; the input reads as it did. -/
def fnExactHeadSumSpec : ChangeSpec := { name := "fnExactHeadSum", vars := ["loop.example/g00565/impl.pieceStarts"], fn := fun _ => fun
  | [d, g1] => { results := [.lit (.bool true)], args := [d], vars := [g1] }
  | _ => none }
def fnExactHeadSumRow : OpenClaim := { program := "ytffidkoejlebeaadoor", sum := "ed121a7b0206ffd4c2362ce74a8b150f23a5f345b0682eac0aecfda57554cc6d", func := "loop.example/g00565/laws.FnExactHeadSum", spec := "fnExactHeadSum", named := ["loop.example/g00565/impl.pieceStarts"], apart := false, laid := [("loop.example/g00565/impl.pieceStarts", laid_loop_example_g00565_impl_pieceStarts)] }
def FnExactHeadSumSaid : Prop := fnExactHeadSumRow.holds Tryd.pinned (OpenSpec.ofChange fnExactHeadSumSpec)

/-- ITS FALSE NEIGHBOUR: 'it returns false'. Refute it at one input. -/
def fnExactHeadSumWrong : ChangeSpec := { name := "fnExactHeadSum", vars := ["loop.example/g00565/impl.pieceStarts"], fn := fun _ => fun
  | [d, g1] => { results := [.lit (.bool false)], args := [d], vars := [g1] }
  | _ => none }
def FnExactHeadSumWrongFalsely : Prop := fnExactHeadSumRow.holds Tryd.pinned (OpenSpec.ofChange fnExactHeadSumWrong)

/-- 'laws.FnExactSignHead': WHATEVER THE INPUT: true; the input reads as it did. -/
def fnExactSignHeadSpec : ChangeSpec := { name := "fnExactSignHead", vars := ["loop.example/g00565/impl.pieceStarts"], fn := fun _ => fun
  | [d1, d2, d3, g1] => { results := [.lit (.bool true)], args := [d1, d2, d3], vars := [g1] }
  | _ => none }
def fnExactSignHeadRow : OpenClaim := { program := "ytffidkoejlebeaadoor", sum := "ed121a7b0206ffd4c2362ce74a8b150f23a5f345b0682eac0aecfda57554cc6d", func := "loop.example/g00565/laws.FnExactSignHead", spec := "fnExactSignHead", unfollowed := true, recurses := true, named := ["loop.example/g00565/impl.pieceStarts"], apart := false, laid := [("loop.example/g00565/impl.pieceStarts", laid_loop_example_g00565_impl_pieceStarts)] }
def FnExactSignHeadSaid : Prop := fnExactSignHeadRow.holds Tryd.pinned (OpenSpec.ofChange fnExactSignHeadSpec)

/-- ITS FALSE NEIGHBOUR: 'it returns false'. Refute it at one input. -/
def fnExactSignHeadWrong : ChangeSpec := { name := "fnExactSignHead", vars := ["loop.example/g00565/impl.pieceStarts"], fn := fun _ => fun
  | [d1, d2, d3, g1] => { results := [.lit (.bool false)], args := [d1, d2, d3], vars := [g1] }
  | _ => none }
def FnExactSignHeadWrongFalsely : Prop := fnExactSignHeadRow.holds Tryd.pinned (OpenSpec.ofChange fnExactSignHeadWrong)

/-- 'laws.FnExactCheckHead': WHATEVER THE INPUT: true; the input reads as it did. -/
def fnExactCheckHeadSpec : ChangeSpec := { name := "fnExactCheckHead", vars := ["loop.example/g00565/impl.pieceStarts"], fn := fun _ => fun
  | [d1, d2, d3, g1] => { results := [.lit (.bool true)], args := [d1, d2, d3], vars := [g1] }
  | _ => none }
def fnExactCheckHeadRow : OpenClaim := { program := "ytffidkoejlebeaadoor", sum := "ed121a7b0206ffd4c2362ce74a8b150f23a5f345b0682eac0aecfda57554cc6d", func := "loop.example/g00565/laws.FnExactCheckHead", spec := "fnExactCheckHead", unfollowed := true, recurses := true, named := ["loop.example/g00565/impl.pieceStarts"], apart := false, laid := [("loop.example/g00565/impl.pieceStarts", laid_loop_example_g00565_impl_pieceStarts)] }
def FnExactCheckHeadSaid : Prop := fnExactCheckHeadRow.holds Tryd.pinned (OpenSpec.ofChange fnExactCheckHeadSpec)

/-- ITS FALSE NEIGHBOUR: 'it returns false'. Refute it at one input. -/
def fnExactCheckHeadWrong : ChangeSpec := { name := "fnExactCheckHead", vars := ["loop.example/g00565/impl.pieceStarts"], fn := fun _ => fun
  | [d1, d2, d3, g1] => { results := [.lit (.bool false)], args := [d1, d2, d3], vars := [g1] }
  | _ => none }
def FnExactCheckHeadWrongFalsely : Prop := fnExactCheckHeadRow.holds Tryd.pinned (OpenSpec.ofChange fnExactCheckHeadWrong)

/- THE SECOND FORM. 'bulk': how many values and letters a reading holds, each counted each time it is reached (what is shared counts as often as it is met; a slice's spare places count too). A statement '..UptoSaid' is the law's where the arguments, and the package variables that the reading takes, are together of bulk at most 1048576: NARROWER than '..Said'. Prove '..Said' where nothing that the law and all that it calls make is longer than what came in: it says more and counts as full. Else prove '..UptoSaid'. A law counts once. -/
mutual
def uptoBulk {H : Type} : DataW H → Nat
  | .lit (.string bytes) => bytes.length + 1
  | .lit _ => 1
  | .nil => 1
  | .ptr d => uptoBulk d + 1
  | .slice elems spare => uptoBulkAll elems + uptoBulkAll spare + 1
  | .agg parts => uptoBulkAll parts + 1
  | .iface _ d => uptoBulk d + 1
  | .map entries => uptoBulkEntries entries + 1
  | .held _ => 1
def uptoBulkAll {H : Type} : List (DataW H) → Nat
  | [] => 0
  | d :: r => uptoBulk d + uptoBulkAll r
def uptoBulkEntries {H : Type} : List (Lit × DataW H) → Nat
  | [] => 0
  | x :: r => uptoBulkEntry x + uptoBulkEntries r
def uptoBulkEntry {H : Type} : Lit × DataW H → Nat
  | (.string bytes, d) => bytes.length + uptoBulk d + 1
  | (_, d) => uptoBulk d + 1
 end
def uptoSmall : (H : Type) → List (DataW H) → Bool := fun _ ds => decide (uptoBulkAll ds ≤ 1048576)
def OpenSpec.upto (s : _root_.Go.ChangeSpec) : _root_.Go.OpenSpec := { _root_.Go.OpenSpec.ofChange s with cond := some uptoSmall }

/-- 'laws.FnExactPackHead', WHERE WHAT IT READS IS OF BULK AT MOST 1048576: true; the input reads as it did. -/
def fnExactPackHeadUptoRow : OpenClaim := { program := "ytffidkoejlebeaadoor", sum := "ed121a7b0206ffd4c2362ce74a8b150f23a5f345b0682eac0aecfda57554cc6d", func := "loop.example/g00565/laws.FnExactPackHead", spec := "fnExactPackHead", named := ["loop.example/g00565/impl.pieceStarts"], apart := false, laid := [("loop.example/g00565/impl.pieceStarts", laid_loop_example_g00565_impl_pieceStarts)], narrowed := true }
def FnExactPackHeadUptoSaid : Prop := fnExactPackHeadUptoRow.holds Tryd.pinned (OpenSpec.upto fnExactPackHeadSpec)

/-- 'laws.FnExactReadHead', WHERE WHAT IT READS IS OF BULK AT MOST 1048576: true; the input reads as it did. -/
def fnExactReadHeadUptoRow : OpenClaim := { program := "ytffidkoejlebeaadoor", sum := "ed121a7b0206ffd4c2362ce74a8b150f23a5f345b0682eac0aecfda57554cc6d", func := "loop.example/g00565/laws.FnExactReadHead", spec := "fnExactReadHead", named := ["loop.example/g00565/impl.pieceStarts"], apart := false, laid := [("loop.example/g00565/impl.pieceStarts", laid_loop_example_g00565_impl_pieceStarts)], narrowed := true }
def FnExactReadHeadUptoSaid : Prop := fnExactReadHeadUptoRow.holds Tryd.pinned (OpenSpec.upto fnExactReadHeadSpec)

/-- 'laws.FnExactHeadSum', WHERE WHAT IT READS IS OF BULK AT MOST 1048576: true; the input reads as it did. -/
def fnExactHeadSumUptoRow : OpenClaim := { program := "ytffidkoejlebeaadoor", sum := "ed121a7b0206ffd4c2362ce74a8b150f23a5f345b0682eac0aecfda57554cc6d", func := "loop.example/g00565/laws.FnExactHeadSum", spec := "fnExactHeadSum", named := ["loop.example/g00565/impl.pieceStarts"], apart := false, laid := [("loop.example/g00565/impl.pieceStarts", laid_loop_example_g00565_impl_pieceStarts)], narrowed := true }
def FnExactHeadSumUptoSaid : Prop := fnExactHeadSumUptoRow.holds Tryd.pinned (OpenSpec.upto fnExactHeadSumSpec)

/-- 'laws.FnExactSignHead', WHERE WHAT IT READS IS OF BULK AT MOST 1048576: true; the input reads as it did. -/
def fnExactSignHeadUptoRow : OpenClaim := { program := "ytffidkoejlebeaadoor", sum := "ed121a7b0206ffd4c2362ce74a8b150f23a5f345b0682eac0aecfda57554cc6d", func := "loop.example/g00565/laws.FnExactSignHead", spec := "fnExactSignHead", unfollowed := true, recurses := true, named := ["loop.example/g00565/impl.pieceStarts"], apart := false, laid := [("loop.example/g00565/impl.pieceStarts", laid_loop_example_g00565_impl_pieceStarts)], narrowed := true }
def FnExactSignHeadUptoSaid : Prop := fnExactSignHeadUptoRow.holds Tryd.pinned (OpenSpec.upto fnExactSignHeadSpec)

/-- 'laws.FnExactCheckHead', WHERE WHAT IT READS IS OF BULK AT MOST 1048576: true; the input reads as it did. -/
def fnExactCheckHeadUptoRow : OpenClaim := { program := "ytffidkoejlebeaadoor", sum := "ed121a7b0206ffd4c2362ce74a8b150f23a5f345b0682eac0aecfda57554cc6d", func := "loop.example/g00565/laws.FnExactCheckHead", spec := "fnExactCheckHead", unfollowed := true, recurses := true, named := ["loop.example/g00565/impl.pieceStarts"], apart := false, laid := [("loop.example/g00565/impl.pieceStarts", laid_loop_example_g00565_impl_pieceStarts)], narrowed := true }
def FnExactCheckHeadUptoSaid : Prop := fnExactCheckHeadUptoRow.holds Tryd.pinned (OpenSpec.upto fnExactCheckHeadSpec)

end Rows
end Go.Proofs.YtffidkoejlebeaaDoor
