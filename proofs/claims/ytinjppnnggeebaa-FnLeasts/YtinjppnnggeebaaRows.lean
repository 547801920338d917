/-
  No cell of these rows narrows 'for every input' (looked for: loops, veiled, ifaces, maps, wideKeys, modest, calm, conditions, laid).
  DERIVED. THE GIVEN ROWS OF THIS SEAT. 3 by the template 'for every input the law returns true; each argument reads behind the call as it read before'; 0 by the template 'total and deterministic' (their statements: YtinjppnnggeebaaTotals.lean).
  GIVEN WITH THE SEED: the statements are not yours to turn. If you find one false, say at which input.
  Laid BY PROGRAM, IN A SANDBOX (cutbox-rows.mjs): the forced cells as the released guide's own fill.sh prints them over the translation 70a6d00126a98bae… (all of the seat's roots in one cut). By AI agents, Wed Nov 11 2026. No macro, syntax, notation, axiom, sorry.
-/
import Derived.Test.YtinjppnnggeebaaChecked
import GoSem.Claim
import GoSem.ClaimJoined
import GoSem.ClaimMapViews
import Derived.JoinedTies
import Derived.KernelRfl
namespace Go.Proofs.Ytinjppnnggeebaa
/- THE CELL 'sum', in the pinned program and in every row, IS THE sha256 OF THE DUMP (.gsa) THAT YtinjppnnggeebaaProg.lean LOADS. Nothing in Lean hashes anything: it is a label: what it is worth is what the hold of that sum in a sandbox is worth. -/
noncomputable def Try.pinned : Pinned := { name := "ytinjppnnggeebaa", sum := "70a6d00126a98bae5013cf467efdec080388cd0e9db7a8a2fe7c635080c0fe0d", checked := Try.checked }
namespace Rows
def none {H : Type} : Left H := { results := [], args := [] }

/-- 'laws.FnMeasures': WHATEVER THE INPUT: true; the input reads as it did. -/
def fnMeasuresSpec : ChangeSpec := { name := "fnMeasures", fn := fun _ => fun
  | [d] => { results := [.lit (.bool true)], args := [d] }
  | _ => none }
def fnMeasuresRow : OpenClaim := { program := "ytinjppnnggeebaa", sum := "70a6d00126a98bae5013cf467efdec080388cd0e9db7a8a2fe7c635080c0fe0d", func := "loop.example/g00565/laws.FnMeasures", spec := "fnMeasures", apart := false }
def FnMeasuresSaid : Prop := fnMeasuresRow.holds Try.pinned (OpenSpec.ofChange fnMeasuresSpec)

/-- ITS FALSE NEIGHBOUR: 'it returns false'. Refute it at one input. -/
def fnMeasuresWrong : ChangeSpec := { name := "fnMeasures", fn := fun _ => fun
  | [d] => { results := [.lit (.bool false)], args := [d] }
  | _ => none }
def FnMeasuresWrongFalsely : Prop := fnMeasuresRow.holds Try.pinned (OpenSpec.ofChange fnMeasuresWrong)

/-- 'laws.FnAheads': WHATEVER THE INPUT: true; the input reads as it did. -/
def fnAheadsSpec : ChangeSpec := { name := "fnAheads", fn := fun _ => fun
  | [d] => { results := [.lit (.bool true)], args := [d] }
  | _ => none }
def fnAheadsRow : OpenClaim := { program := "ytinjppnnggeebaa", sum := "70a6d00126a98bae5013cf467efdec080388cd0e9db7a8a2fe7c635080c0fe0d", func := "loop.example/g00565/laws.FnAheads", spec := "fnAheads", apart := false }
def FnAheadsSaid : Prop := fnAheadsRow.holds Try.pinned (OpenSpec.ofChange fnAheadsSpec)

/-- ITS FALSE NEIGHBOUR: 'it returns false'. Refute it at one input. -/
def fnAheadsWrong : ChangeSpec := { name := "fnAheads", fn := fun _ => fun
  | [d] => { results := [.lit (.bool false)], args := [d] }
  | _ => none }
def FnAheadsWrongFalsely : Prop := fnAheadsRow.holds Try.pinned (OpenSpec.ofChange fnAheadsWrong)

/-- 'laws.FnLeasts': WHATEVER THE INPUT: true; the input reads as it did. -/
def fnLeastsSpec : ChangeSpec := { name := "fnLeasts", fn := fun _ => fun
  | [d] => { results := [.lit (.bool true)], args := [d] }
  | _ => none }
def fnLeastsRow : OpenClaim := { program := "ytinjppnnggeebaa", sum := "70a6d00126a98bae5013cf467efdec080388cd0e9db7a8a2fe7c635080c0fe0d", func := "loop.example/g00565/laws.FnLeasts", spec := "fnLeasts", unfollowed := true, recurses := true, apart := false }
def FnLeastsSaid : Prop := fnLeastsRow.holds Try.pinned (OpenSpec.ofChange fnLeastsSpec)

/-- ITS FALSE NEIGHBOUR: 'it returns false'. Refute it at one input. -/
def fnLeastsWrong : ChangeSpec := { name := "fnLeasts", fn := fun _ => fun
  | [d] => { results := [.lit (.bool false)], args := [d] }
  | _ => none }
def FnLeastsWrongFalsely : Prop := fnLeastsRow.holds Try.pinned (OpenSpec.ofChange fnLeastsWrong)

/- THE SECOND FORM. 'bulk': how many values and letters a reading holds, each counted each time it is reached (what is shared counts as often as it is met; a slice's spare places count too). A statement '..UptoSaid' is the law's where the arguments, and the package variables that the reading takes, are together of bulk at most 1048576: NARROWER than '..Said'. Prove '..Said' where nothing that the law and all that it calls make is longer than what came in: it says more and counts as full. Else prove '..UptoSaid'. A law counts once. -/
mutual
def uptoBulk {H : Type} : DataW H → Nat
  | .lit (.string bytes) => bytes.length + 1
  | .lit _ => 1
  | .nil => 1
  | .ptr d => uptoBulk d + 1
  | .slice elems spare => uptoBulkAll elems + uptoBulkAll spare + 1
  | .agg parts => uptoBulkAll parts + 1
  | .iface _ d => uptoBulk d + 1
  | .map entries => uptoBulkEntries entries + 1
  | .held _ => 1
def uptoBulkAll {H : Type} : List (DataW H) → Nat
  | [] => 0
  | d :: r => uptoBulk d + uptoBulkAll r
def uptoBulkEntries {H : Type} : List (Lit × DataW H) → Nat
  | [] => 0
  | x :: r => uptoBulkEntry x + uptoBulkEntries r
def uptoBulkEntry {H : Type} : Lit × DataW H → Nat
  | (.string bytes, d) => bytes.length + uptoBulk d + 1
  | (_, d) => uptoBulk d + 1
 end
def uptoSmall : (H : Type) → List (DataW H) → Bool := fun _ ds => decide (uptoBulkAll ds ≤ 1048576)
def OpenSpec.upto (s : _root_.Go.ChangeSpec) : _root_.Go.OpenSpec := { _root_.Go.OpenSpec.ofChange s with cond := some uptoSmall }

/-- 'laws.FnMeasures', WHERE WHAT IT READS IS OF BULK AT MOST 1048576: true; the input reads as it did. -/
def fnMeasuresUptoRow : OpenClaim := { program := "ytinjppnnggeebaa", sum := "70a6d00126a98bae5013cf467efdec080388cd0e9db7a8a2fe7c635080c0fe0d", func := "loop.example/g00565/laws.FnMeasures", spec := "fnMeasures", apart := false, narrowed := true }
def FnMeasuresUptoSaid : Prop := fnMeasuresUptoRow.holds Try.pinned (OpenSpec.upto fnMeasuresSpec)

/-- 'laws.FnAheads', WHERE WHAT IT READS IS OF BULK AT MOST 1048576: true; the input reads as it did. -/
def fnAheadsUptoRow : OpenClaim := { program := "ytinjppnnggeebaa", sum := "70a6d00126a98bae5013cf467efdec080388cd0e9db7a8a2fe7c635080c0fe0d", func := "loop.example/g00565/laws.FnAheads", spec := "fnAheads", apart := false, narrowed := true }
def FnAheadsUptoSaid : Prop := fnAheadsUptoRow.holds Try.pinned (OpenSpec.upto fnAheadsSpec)

/-- 'laws.FnLeasts', WHERE WHAT IT READS IS OF BULK AT MOST 1048576: true; the input reads as it did. -/
def fnLeastsUptoRow : OpenClaim := { program := "ytinjppnnggeebaa", sum := "70a6d00126a98bae5013cf467efdec080388cd0e9db7a8a2fe7c635080c0fe0d", func := "loop.example/g00565/laws.FnLeasts", spec := "fnLeasts", unfollowed := true, recurses := true, apart := false, narrowed := true }
def FnLeastsUptoSaid : Prop := fnLeastsUptoRow.holds Try.pinned (OpenSpec.upto fnLeastsSpec)

end Rows
end Go.Proofs.Ytinjppnnggeebaa
