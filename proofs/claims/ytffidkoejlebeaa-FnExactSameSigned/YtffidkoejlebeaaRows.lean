/-
  No cell of these rows narrows 'for every input' (looked for: loops, veiled, ifaces, maps, wideKeys, modest, calm, conditions, laid).
  DERIVED. THE GIVEN ROWS OF THIS SEAT. 3 by the template 'for every input the law returns true; each argument reads behind the call as it read before'; 0 by the template 'total and deterministic' (their statements: YtffidkoejlebeaaTotals.lean).
  GIVEN WITH THE SEED: the statements are not yours to turn. If you find one false, say at which input.
  Laid BY PROGRAM, IN A SANDBOX (cutbox-rows.mjs): the forced cells as the released guide's own fill.sh prints them over the translation ea0ece81ef4e10ac… (all of the seat's roots in one cut). By AI agents, Wed Nov 11 2026. No macro, syntax, notation, axiom, sorry.
-/
import Derived.Test.YtffidkoejlebeaaChecked
import GoSem.Claim
import GoSem.ClaimJoined
import GoSem.ClaimMapViews
import Derived.JoinedTies
import Derived.KernelRfl
namespace Go.Proofs.Ytffidkoejlebeaa
/- THE CELL 'sum', in the pinned program and in every row, IS THE sha256 OF THE DUMP (.gsa) THAT YtffidkoejlebeaaProg.lean LOADS. Nothing in Lean hashes anything: it is a label: what it is worth is what the hold of that sum in a sandbox is worth. -/
noncomputable def Try.pinned : Pinned := { name := "ytffidkoejlebeaa", sum := "ea0ece81ef4e10acfa68168fa4693e28f567bc5b6ac1025b0dc60b5015dedf02", checked := Try.checked }
namespace Rows
def none {H : Type} : Left H := { results := [], args := [] }

/-- 'laws.FnExactHeadFault': WHATEVER THE INPUT: true; the input reads as it did. -/
def fnExactHeadFaultSpec : ChangeSpec := { name := "fnExactHeadFault", fn := fun _ => fun
  | [d] => { results := [.lit (.bool true)], args := [d] }
  | _ => none }
def fnExactHeadFaultRow : OpenClaim := { program := "ytffidkoejlebeaa", sum := "ea0ece81ef4e10acfa68168fa4693e28f567bc5b6ac1025b0dc60b5015dedf02", func := "loop.example/g00565/laws.FnExactHeadFault", spec := "fnExactHeadFault", apart := false }
def FnExactHeadFaultSaid : Prop := fnExactHeadFaultRow.holds Try.pinned (OpenSpec.ofChange fnExactHeadFaultSpec)

/-- ITS FALSE NEIGHBOUR: 'it returns false'. Refute it at one input. -/
def fnExactHeadFaultWrong : ChangeSpec := { name := "fnExactHeadFault", fn := fun _ => fun
  | [d] => { results := [.lit (.bool false)], args := [d] }
  | _ => none }
def FnExactHeadFaultWrongFalsely : Prop := fnExactHeadFaultRow.holds Try.pinned (OpenSpec.ofChange fnExactHeadFaultWrong)

/-- 'laws.FnExactSignedFault': WHATEVER THE INPUT: true; the input reads as it did. -/
def fnExactSignedFaultSpec : ChangeSpec := { name := "fnExactSignedFault", fn := fun _ => fun
  | [d] => { results := [.lit (.bool true)], args := [d] }
  | _ => none }
def fnExactSignedFaultRow : OpenClaim := { program := "ytffidkoejlebeaa", sum := "ea0ece81ef4e10acfa68168fa4693e28f567bc5b6ac1025b0dc60b5015dedf02", func := "loop.example/g00565/laws.FnExactSignedFault", spec := "fnExactSignedFault", apart := false }
def FnExactSignedFaultSaid : Prop := fnExactSignedFaultRow.holds Try.pinned (OpenSpec.ofChange fnExactSignedFaultSpec)

/-- ITS FALSE NEIGHBOUR: 'it returns false'. Refute it at one input. -/
def fnExactSignedFaultWrong : ChangeSpec := { name := "fnExactSignedFault", fn := fun _ => fun
  | [d] => { results := [.lit (.bool false)], args := [d] }
  | _ => none }
def FnExactSignedFaultWrongFalsely : Prop := fnExactSignedFaultRow.holds Try.pinned (OpenSpec.ofChange fnExactSignedFaultWrong)

/-- 'laws.FnExactSameSigned': WHATEVER THE INPUT: true; the input reads as it did. -/
def fnExactSameSignedSpec : ChangeSpec := { name := "fnExactSameSigned", fn := fun _ => fun
  | [d1, d2] => { results := [.lit (.bool true)], args := [d1, d2] }
  | _ => none }
def fnExactSameSignedRow : OpenClaim := { program := "ytffidkoejlebeaa", sum := "ea0ece81ef4e10acfa68168fa4693e28f567bc5b6ac1025b0dc60b5015dedf02", func := "loop.example/g00565/laws.FnExactSameSigned", spec := "fnExactSameSigned", apart := false }
def FnExactSameSignedSaid : Prop := fnExactSameSignedRow.holds Try.pinned (OpenSpec.ofChange fnExactSameSignedSpec)

/-- ITS FALSE NEIGHBOUR: 'it returns false'. Refute it at one input. -/
def fnExactSameSignedWrong : ChangeSpec := { name := "fnExactSameSigned", fn := fun _ => fun
  | [d1, d2] => { results := [.lit (.bool false)], args := [d1, d2] }
  | _ => none }
def FnExactSameSignedWrongFalsely : Prop := fnExactSameSignedRow.holds Try.pinned (OpenSpec.ofChange fnExactSameSignedWrong)

/- THE SECOND FORM. 'bulk': how many values and letters a reading holds, each counted each time it is reached (what is shared counts as often as it is met; a slice's spare places count too). A statement '..UptoSaid' is the law's where the arguments, and the package variables that the reading takes, are together of bulk at most 1048576: NARROWER than '..Said'. Prove '..Said' where nothing that the law and all that it calls make is longer than what came in: it says more and counts as full. Else prove '..UptoSaid'. A law counts once. -/
mutual
def uptoBulk {H : Type} : DataW H → Nat
  | .lit (.string bytes) => bytes.length + 1
  | .lit _ => 1
  | .nil => 1
  | .ptr d => uptoBulk d + 1
  | .slice elems spare => uptoBulkAll elems + uptoBulkAll spare + 1
  | .agg parts => uptoBulkAll parts + 1
  | .iface _ d => uptoBulk d + 1
  | .map entries => uptoBulkEntries entries + 1
  | .held _ => 1
def uptoBulkAll {H : Type} : List (DataW H) → Nat
  | [] => 0
  | d :: r => uptoBulk d + uptoBulkAll r
def uptoBulkEntries {H : Type} : List (Lit × DataW H) → Nat
  | [] => 0
  | x :: r => uptoBulkEntry x + uptoBulkEntries r
def uptoBulkEntry {H : Type} : Lit × DataW H → Nat
  | (.string bytes, d) => bytes.length + uptoBulk d + 1
  | (_, d) => uptoBulk d + 1
 end
def uptoSmall : (H : Type) → List (DataW H) → Bool := fun _ ds => decide (uptoBulkAll ds ≤ 1048576)
def OpenSpec.upto (s : _root_.Go.ChangeSpec) : _root_.Go.OpenSpec := { _root_.Go.OpenSpec.ofChange s with cond := some uptoSmall }

/-- 'laws.FnExactHeadFault', WHERE WHAT IT READS IS OF BULK AT MOST 1048576: true; the input reads as it did. -/
def fnExactHeadFaultUptoRow : OpenClaim := { program := "ytffidkoejlebeaa", sum := "ea0ece81ef4e10acfa68168fa4693e28f567bc5b6ac1025b0dc60b5015dedf02", func := "loop.example/g00565/laws.FnExactHeadFault", spec := "fnExactHeadFault", apart := false, narrowed := true }
def FnExactHeadFaultUptoSaid : Prop := fnExactHeadFaultUptoRow.holds Try.pinned (OpenSpec.upto fnExactHeadFaultSpec)

/-- 'laws.FnExactSignedFault', WHERE WHAT IT READS IS OF BULK AT MOST 1048576: true; the input reads as it did. -/
def fnExactSignedFaultUptoRow : OpenClaim := { program := "ytffidkoejlebeaa", sum := "ea0ece81ef4e10acfa68168fa4693e28f567bc5b6ac1025b0dc60b5015dedf02", func := "loop.example/g00565/laws.FnExactSignedFault", spec := "fnExactSignedFault", apart := false, narrowed := true }
def FnExactSignedFaultUptoSaid : Prop := fnExactSignedFaultUptoRow.holds Try.pinned (OpenSpec.upto fnExactSignedFaultSpec)

/-- 'laws.FnExactSameSigned', WHERE WHAT IT READS IS OF BULK AT MOST 1048576: true; the input reads as it did. -/
def fnExactSameSignedUptoRow : OpenClaim := { program := "ytffidkoejlebeaa", sum := "ea0ece81ef4e10acfa68168fa4693e28f567bc5b6ac1025b0dc60b5015dedf02", func := "loop.example/g00565/laws.FnExactSameSigned", spec := "fnExactSameSigned", apart := false, narrowed := true }
def FnExactSameSignedUptoSaid : Prop := fnExactSameSignedUptoRow.holds Try.pinned (OpenSpec.upto fnExactSameSignedSpec)

end Rows
end Go.Proofs.Ytffidkoejlebeaa
