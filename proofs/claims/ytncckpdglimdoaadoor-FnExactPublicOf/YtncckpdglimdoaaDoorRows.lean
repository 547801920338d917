/-
  NARROWER THAN 'FOR EVERY INPUT', by the rows' own cells (each row's printed sentence says how): FnKeys: laid · FnSigns: laid · FnExactSecretOf: laid · FnExactPublicOf: laid · FnExactKeySum: laid · FnExactKeysRoot: laid · FnExactSignSum: laid · FnExactOpenSign: laid · FnExactCheckSign: laid.
  DERIVED. THE GIVEN ROWS OF THIS SEAT. 9 by the template 'for every input the law returns true; each argument reads behind the call as it read before'; 0 by the template 'total and deterministic' (their statements: YtncckpdglimdoaaDoorTotals.lean).
  GIVEN WITH THE SEED: the statements are not yours to turn. If you find one false, say at which input.
  Laid BY PROGRAM, IN A SANDBOX (cutbox-rows.mjs): the forced cells as the released guide's own fill.sh prints them over the translation eb1dc360b6bbff83… (all of the seat's roots in one cut). By AI agents, Wed Nov 11 2026. No macro, syntax, notation, axiom, sorry.
-/
import Derived.Test.YtncckpdglimdoaaDoorChecked
import GoSem.Claim
import GoSem.ClaimJoined
import GoSem.ClaimMapViews
import Derived.JoinedTies
import Derived.KernelRfl
namespace Go.Proofs.YtncckpdglimdoaaDoor
/- THE CELL 'sum', in the pinned program and in every row, IS THE sha256 OF THE DUMP (.gsa) THAT YtncckpdglimdoaaDoorProg.lean LOADS. Nothing in Lean hashes anything: it is a label: what it is worth is what the hold of that sum in a sandbox is worth. -/
noncomputable def Tryd.pinned : Pinned := { name := "ytncckpdglimdoaadoor", sum := "eb1dc360b6bbff83157d7a806302ebe735de2fd67d07141f744f9b58f8d25740", checked := Tryd.checked }
namespace Rows
def none {H : Type} : Left H := { results := [], args := [] }

/- WHAT THE LISTED PACKAGE-LEVEL VARIABLES READ AS WHEN THE CALL BEGINS. Each datum BY PROGRAM (the guide's laid-datum.mjs) off the statement by which the dump's own 'gosem.cut.vars' lays the variable. In a bare row this is a premise. The card (YtncckpdglimdoaaDoorCards.lean) ties it to the program's text. -/
def laid_loop_example_g00565_impl_pieceStarts {H : Type} : DataW H := .agg [.lit (.int .u8 0), .lit (.int .u8 1), .lit (.int .u8 2), .lit (.int .u8 3), .lit (.int .u8 4), .lit (.int .u8 5)]

/-- 'laws.FnKeys': WHATEVER THE INPUT: true; the input reads as it did. -/
def fnKeysSpec : ChangeSpec := { name := "fnKeys", vars := ["loop.example/g00565/impl.pieceStarts"], fn := fun _ => fun
  | [d, g1] => { results := [.lit (.bool true)], args := [d], vars := [g1] }
  | _ => none }
def fnKeysRow : OpenClaim := { program := "ytncckpdglimdoaadoor", sum := "eb1dc360b6bbff83157d7a806302ebe735de2fd67d07141f744f9b58f8d25740", func := "loop.example/g00565/laws.FnKeys", spec := "fnKeys", unfollowed := true, recurses := true, named := ["loop.example/g00565/impl.pieceStarts"], apart := false, laid := [("loop.example/g00565/impl.pieceStarts", laid_loop_example_g00565_impl_pieceStarts)] }
def FnKeysSaid : Prop := fnKeysRow.holds Tryd.pinned (OpenSpec.ofChange fnKeysSpec)

/-- ITS FALSE NEIGHBOUR: 'it returns false'. Refute it at one input. -/
def fnKeysWrong : ChangeSpec := { name := "fnKeys", vars := ["loop.example/g00565/impl.pieceStarts"], fn := fun _ => fun
  | [d, g1] => { results := [.lit (.bool false)], args := [d], vars := [g1] }
  | _ => none }
def FnKeysWrongFalsely : Prop := fnKeysRow.holds Tryd.pinned (OpenSpec.ofChange fnKeysWrong)

/-- 'laws.FnSigns': WHATEVER THE INPUT: true; the input reads as it did. -/
def fnSignsSpec : ChangeSpec := { name := "fnSigns", vars := ["loop.example/g00565/impl.pieceStarts"], fn := fun _ => fun
  | [d, g1] => { results := [.lit (.bool true)], args := [d], vars := [g1] }
  | _ => none }
def fnSignsRow : OpenClaim := { program := "ytncckpdglimdoaadoor", sum := "eb1dc360b6bbff83157d7a806302ebe735de2fd67d07141f744f9b58f8d25740", func := "loop.example/g00565/laws.FnSigns", spec := "fnSigns", unfollowed := true, recurses := true, named := ["loop.example/g00565/impl.pieceStarts"], apart := false, laid := [("loop.example/g00565/impl.pieceStarts", laid_loop_example_g00565_impl_pieceStarts)] }
def FnSignsSaid : Prop := fnSignsRow.holds Tryd.pinned (OpenSpec.ofChange fnSignsSpec)

/-- ITS FALSE NEIGHBOUR: 'it returns false'. Refute it at one input. -/
def fnSignsWrong : ChangeSpec := { name := "fnSigns", vars := ["loop.example/g00565/impl.pieceStarts"], fn := fun _ => fun
  | [d, g1] => { results := [.lit (.bool false)], args := [d], vars := [g1] }
  | _ => none }
def FnSignsWrongFalsely : Prop := fnSignsRow.holds Tryd.pinned (OpenSpec.ofChange fnSignsWrong)

/-- 'laws.FnExactSecretOf': WHATEVER THE INPUT: true; the input reads as it did. -/
def fnExactSecretOfSpec : ChangeSpec := { name := "fnExactSecretOf", vars := ["loop.example/g00565/impl.pieceStarts"], fn := fun _ => fun
  | [d1, d2, d3, d4, g1] => { results := [.lit (.bool true)], args := [d1, d2, d3, d4], vars := [g1] }
  | _ => none }
def fnExactSecretOfRow : OpenClaim := { program := "ytncckpdglimdoaadoor", sum := "eb1dc360b6bbff83157d7a806302ebe735de2fd67d07141f744f9b58f8d25740", func := "loop.example/g00565/laws.FnExactSecretOf", spec := "fnExactSecretOf", named := ["loop.example/g00565/impl.pieceStarts"], apart := false, laid := [("loop.example/g00565/impl.pieceStarts", laid_loop_example_g00565_impl_pieceStarts)] }
def FnExactSecretOfSaid : Prop := fnExactSecretOfRow.holds Tryd.pinned (OpenSpec.ofChange fnExactSecretOfSpec)

/-- ITS FALSE NEIGHBOUR: 'it returns false'. Refute it at one input. -/
def fnExactSecretOfWrong : ChangeSpec := { name := "fnExactSecretOf", vars := ["loop.example/g00565/impl.pieceStarts"], fn := fun _ => fun
  | [d1, d2, d3, d4, g1] => { results := [.lit (.bool false)], args := [d1, d2, d3, d4], vars := [g1] }
  | _ => none }
def FnExactSecretOfWrongFalsely : Prop := fnExactSecretOfRow.holds Tryd.pinned (OpenSpec.ofChange fnExactSecretOfWrong)

/-- 'laws.FnExactPublicOf': WHATEVER THE INPUT: true; the input reads as it did. -/
def fnExactPublicOfSpec : ChangeSpec := { name := "fnExactPublicOf", vars := ["loop.example/g00565/impl.pieceStarts"], fn := fun _ => fun
  | [d1, d2, g1] => { results := [.lit (.bool true)], args := [d1, d2], vars := [g1] }
  | _ => none }
def fnExactPublicOfRow : OpenClaim := { program := "ytncckpdglimdoaadoor", sum := "eb1dc360b6bbff83157d7a806302ebe735de2fd67d07141f744f9b58f8d25740", func := "loop.example/g00565/laws.FnExactPublicOf", spec := "fnExactPublicOf", unfollowed := true, recurses := true, named := ["loop.example/g00565/impl.pieceStarts"], apart := false, laid := [("loop.example/g00565/impl.pieceStarts", laid_loop_example_g00565_impl_pieceStarts)] }
def FnExactPublicOfSaid : Prop := fnExactPublicOfRow.holds Tryd.pinned (OpenSpec.ofChange fnExactPublicOfSpec)

/-- ITS FALSE NEIGHBOUR: 'it returns false'. Refute it at one input. -/
def fnExactPublicOfWrong : ChangeSpec := { name := "fnExactPublicOf", vars := ["loop.example/g00565/impl.pieceStarts"], fn := fun _ => fun
  | [d1, d2, g1] => { results := [.lit (.bool false)], args := [d1, d2], vars := [g1] }
  | _ => none }
def FnExactPublicOfWrongFalsely : Prop := fnExactPublicOfRow.holds Tryd.pinned (OpenSpec.ofChange fnExactPublicOfWrong)

/-- 'laws.FnExactKeySum': WHATEVER THE INPUT: true; the input reads as it did. -/
def fnExactKeySumSpec : ChangeSpec := { name := "fnExactKeySum", vars := ["loop.example/g00565/impl.pieceStarts"], fn := fun _ => fun
  | [d, g1] => { results := [.lit (.bool true)], args := [d], vars := [g1] }
  | _ => none }
def fnExactKeySumRow : OpenClaim := { program := "ytncckpdglimdoaadoor", sum := "eb1dc360b6bbff83157d7a806302ebe735de2fd67d07141f744f9b58f8d25740", func := "loop.example/g00565/laws.FnExactKeySum", spec := "fnExactKeySum", named := ["loop.example/g00565/impl.pieceStarts"], apart := false, laid := [("loop.example/g00565/impl.pieceStarts", laid_loop_example_g00565_impl_pieceStarts)] }
def FnExactKeySumSaid : Prop := fnExactKeySumRow.holds Tryd.pinned (OpenSpec.ofChange fnExactKeySumSpec)

/-- ITS FALSE NEIGHBOUR: 'it returns false'. Refute it at one input. -/
def fnExactKeySumWrong : ChangeSpec := { name := "fnExactKeySum", vars := ["loop.example/g00565/impl.pieceStarts"], fn := fun _ => fun
  | [d, g1] => { results := [.lit (.bool false)], args := [d], vars := [g1] }
  | _ => none }
def FnExactKeySumWrongFalsely : Prop := fnExactKeySumRow.holds Tryd.pinned (OpenSpec.ofChange fnExactKeySumWrong)

/-- 'laws.FnExactKeysRoot': WHATEVER THE INPUT: true; the input reads as it did. -/
def fnExactKeysRootSpec : ChangeSpec := { name := "fnExactKeysRoot", vars := ["loop.example/g00565/impl.pieceStarts"], fn := fun _ => fun
  | [d1, d2, g1] => { results := [.lit (.bool true)], args := [d1, d2], vars := [g1] }
  | _ => none }
def fnExactKeysRootRow : OpenClaim := { program := "ytncckpdglimdoaadoor", sum := "eb1dc360b6bbff83157d7a806302ebe735de2fd67d07141f744f9b58f8d25740", func := "loop.example/g00565/laws.FnExactKeysRoot", spec := "fnExactKeysRoot", unfollowed := true, recurses := true, named := ["loop.example/g00565/impl.pieceStarts"], apart := false, laid := [("loop.example/g00565/impl.pieceStarts", laid_loop_example_g00565_impl_pieceStarts)] }
def FnExactKeysRootSaid : Prop := fnExactKeysRootRow.holds Tryd.pinned (OpenSpec.ofChange fnExactKeysRootSpec)

/-- ITS FALSE NEIGHBOUR: 'it returns false'. Refute it at one input. -/
def fnExactKeysRootWrong : ChangeSpec := { name := "fnExactKeysRoot", vars := ["loop.example/g00565/impl.pieceStarts"], fn := fun _ => fun
  | [d1, d2, g1] => { results := [.lit (.bool false)], args := [d1, d2], vars := [g1] }
  | _ => none }
def FnExactKeysRootWrongFalsely : Prop := fnExactKeysRootRow.holds Tryd.pinned (OpenSpec.ofChange fnExactKeysRootWrong)

/-- 'laws.FnExactSignSum': WHATEVER THE INPUT: true; the input reads as it did. -/
def fnExactSignSumSpec : ChangeSpec := { name := "fnExactSignSum", vars := ["loop.example/g00565/impl.pieceStarts"], fn := fun _ => fun
  | [d1, d2, d3, g1] => { results := [.lit (.bool true)], args := [d1, d2, d3], vars := [g1] }
  | _ => none }
def fnExactSignSumRow : OpenClaim := { program := "ytncckpdglimdoaadoor", sum := "eb1dc360b6bbff83157d7a806302ebe735de2fd67d07141f744f9b58f8d25740", func := "loop.example/g00565/laws.FnExactSignSum", spec := "fnExactSignSum", unfollowed := true, recurses := true, named := ["loop.example/g00565/impl.pieceStarts"], apart := false, laid := [("loop.example/g00565/impl.pieceStarts", laid_loop_example_g00565_impl_pieceStarts)] }
def FnExactSignSumSaid : Prop := fnExactSignSumRow.holds Tryd.pinned (OpenSpec.ofChange fnExactSignSumSpec)

/-- ITS FALSE NEIGHBOUR: 'it returns false'. Refute it at one input. -/
def fnExactSignSumWrong : ChangeSpec := { name := "fnExactSignSum", vars := ["loop.example/g00565/impl.pieceStarts"], fn := fun _ => fun
  | [d1, d2, d3, g1] => { results := [.lit (.bool false)], args := [d1, d2, d3], vars := [g1] }
  | _ => none }
def FnExactSignSumWrongFalsely : Prop := fnExactSignSumRow.holds Tryd.pinned (OpenSpec.ofChange fnExactSignSumWrong)

/-- 'laws.FnExactOpenSign': WHATEVER THE INPUT: true; the input reads as it did. -/
def fnExactOpenSignSpec : ChangeSpec := { name := "fnExactOpenSign", vars := ["loop.example/g00565/impl.pieceStarts"], fn := fun _ => fun
  | [d1, d2, g1] => { results := [.lit (.bool true)], args := [d1, d2], vars := [g1] }
  | _ => none }
def fnExactOpenSignRow : OpenClaim := { program := "ytncckpdglimdoaadoor", sum := "eb1dc360b6bbff83157d7a806302ebe735de2fd67d07141f744f9b58f8d25740", func := "loop.example/g00565/laws.FnExactOpenSign", spec := "fnExactOpenSign", unfollowed := true, recurses := true, named := ["loop.example/g00565/impl.pieceStarts"], apart := false, laid := [("loop.example/g00565/impl.pieceStarts", laid_loop_example_g00565_impl_pieceStarts)] }
def FnExactOpenSignSaid : Prop := fnExactOpenSignRow.holds Tryd.pinned (OpenSpec.ofChange fnExactOpenSignSpec)

/-- ITS FALSE NEIGHBOUR: 'it returns false'. Refute it at one input. -/
def fnExactOpenSignWrong : ChangeSpec := { name := "fnExactOpenSign", vars := ["loop.example/g00565/impl.pieceStarts"], fn := fun _ => fun
  | [d1, d2, g1] => { results := [.lit (.bool false)], args := [d1, d2], vars := [g1] }
  | _ => none }
def FnExactOpenSignWrongFalsely : Prop := fnExactOpenSignRow.holds Tryd.pinned (OpenSpec.ofChange fnExactOpenSignWrong)

/-- 'laws.FnExactCheckSign': WHATEVER THE INPUT: true; the input reads as it did. -/
def fnExactCheckSignSpec : ChangeSpec := { name := "fnExactCheckSign", vars := ["loop.example/g00565/impl.pieceStarts"], fn := fun _ => fun
  | [d1, d2, d3, d4, d5, g1] => { results := [.lit (.bool true)], args := [d1, d2, d3, d4, d5], vars := [g1] }
  | _ => none }
def fnExactCheckSignRow : OpenClaim := { program := "ytncckpdglimdoaadoor", sum := "eb1dc360b6bbff83157d7a806302ebe735de2fd67d07141f744f9b58f8d25740", func := "loop.example/g00565/laws.FnExactCheckSign", spec := "fnExactCheckSign", unfollowed := true, recurses := true, named := ["loop.example/g00565/impl.pieceStarts"], apart := false, laid := [("loop.example/g00565/impl.pieceStarts", laid_loop_example_g00565_impl_pieceStarts)] }
def FnExactCheckSignSaid : Prop := fnExactCheckSignRow.holds Tryd.pinned (OpenSpec.ofChange fnExactCheckSignSpec)

/-- ITS FALSE NEIGHBOUR: 'it returns false'. Refute it at one input. -/
def fnExactCheckSignWrong : ChangeSpec := { name := "fnExactCheckSign", vars := ["loop.example/g00565/impl.pieceStarts"], fn := fun _ => fun
  | [d1, d2, d3, d4, d5, g1] => { results := [.lit (.bool false)], args := [d1, d2, d3, d4, d5], vars := [g1] }
  | _ => none }
def FnExactCheckSignWrongFalsely : Prop := fnExactCheckSignRow.holds Tryd.pinned (OpenSpec.ofChange fnExactCheckSignWrong)

/- THE SECOND FORM. 'bulk': how many values and letters a reading holds, each counted each time it is reached (what is shared counts as often as it is met; a slice's spare places count too). A statement '..UptoSaid' is the law's where the arguments, and the package variables that the reading takes, are together of bulk at most 1048576: NARROWER than '..Said'. Prove '..Said' where nothing that the law and all that it calls make is longer than what came in: it says more and counts as full. Else prove '..UptoSaid'. A law counts once. -/
mutual
def uptoBulk {H : Type} : DataW H → Nat
  | .lit (.string bytes) => bytes.length + 1
  | .lit _ => 1
  | .nil => 1
  | .ptr d => uptoBulk d + 1
  | .slice elems spare => uptoBulkAll elems + uptoBulkAll spare + 1
  | .agg parts => uptoBulkAll parts + 1
  | .iface _ d => uptoBulk d + 1
  | .map entries => uptoBulkEntries entries + 1
  | .held _ => 1
def uptoBulkAll {H : Type} : List (DataW H) → Nat
  | [] => 0
  | d :: r => uptoBulk d + uptoBulkAll r
def uptoBulkEntries {H : Type} : List (Lit × DataW H) → Nat
  | [] => 0
  | x :: r => uptoBulkEntry x + uptoBulkEntries r
def uptoBulkEntry {H : Type} : Lit × DataW H → Nat
  | (.string bytes, d) => bytes.length + uptoBulk d + 1
  | (_, d) => uptoBulk d + 1
 end
def uptoSmall : (H : Type) → List (DataW H) → Bool := fun _ ds => decide (uptoBulkAll ds ≤ 1048576)
def OpenSpec.upto (s : _root_.Go.ChangeSpec) : _root_.Go.OpenSpec := { _root_.Go.OpenSpec.ofChange s with cond := some uptoSmall }

/-- 'laws.FnKeys', WHERE WHAT IT READS IS OF BULK AT MOST 1048576: true; the input reads as it did. -/
def fnKeysUptoRow : OpenClaim := { program := "ytncckpdglimdoaadoor", sum := "eb1dc360b6bbff83157d7a806302ebe735de2fd67d07141f744f9b58f8d25740", func := "loop.example/g00565/laws.FnKeys", spec := "fnKeys", unfollowed := true, recurses := true, named := ["loop.example/g00565/impl.pieceStarts"], apart := false, laid := [("loop.example/g00565/impl.pieceStarts", laid_loop_example_g00565_impl_pieceStarts)], narrowed := true }
def FnKeysUptoSaid : Prop := fnKeysUptoRow.holds Tryd.pinned (OpenSpec.upto fnKeysSpec)

/-- 'laws.FnSigns', WHERE WHAT IT READS IS OF BULK AT MOST 1048576: true; the input reads as it did. -/
def fnSignsUptoRow : OpenClaim := { program := "ytncckpdglimdoaadoor", sum := "eb1dc360b6bbff83157d7a806302ebe735de2fd67d07141f744f9b58f8d25740", func := "loop.example/g00565/laws.FnSigns", spec := "fnSigns", unfollowed := true, recurses := true, named := ["loop.example/g00565/impl.pieceStarts"], apart := false, laid := [("loop.example/g00565/impl.pieceStarts", laid_loop_example_g00565_impl_pieceStarts)], narrowed := true }
def FnSignsUptoSaid : Prop := fnSignsUptoRow.holds Tryd.pinned (OpenSpec.upto fnSignsSpec)

/-- 'laws.FnExactSecretOf', WHERE WHAT IT READS IS OF BULK AT MOST 1048576: true; the input reads as it did. -/
def fnExactSecretOfUptoRow : OpenClaim := { program := "ytncckpdglimdoaadoor", sum := "eb1dc360b6bbff83157d7a806302ebe735de2fd67d07141f744f9b58f8d25740", func := "loop.example/g00565/laws.FnExactSecretOf", spec := "fnExactSecretOf", named := ["loop.example/g00565/impl.pieceStarts"], apart := false, laid := [("loop.example/g00565/impl.pieceStarts", laid_loop_example_g00565_impl_pieceStarts)], narrowed := true }
def FnExactSecretOfUptoSaid : Prop := fnExactSecretOfUptoRow.holds Tryd.pinned (OpenSpec.upto fnExactSecretOfSpec)

/-- 'laws.FnExactPublicOf', WHERE WHAT IT READS IS OF BULK AT MOST 1048576: true; the input reads as it did. -/
def fnExactPublicOfUptoRow : OpenClaim := { program := "ytncckpdglimdoaadoor", sum := "eb1dc360b6bbff83157d7a806302ebe735de2fd67d07141f744f9b58f8d25740", func := "loop.example/g00565/laws.FnExactPublicOf", spec := "fnExactPublicOf", unfollowed := true, recurses := true, named := ["loop.example/g00565/impl.pieceStarts"], apart := false, laid := [("loop.example/g00565/impl.pieceStarts", laid_loop_example_g00565_impl_pieceStarts)], narrowed := true }
def FnExactPublicOfUptoSaid : Prop := fnExactPublicOfUptoRow.holds Tryd.pinned (OpenSpec.upto fnExactPublicOfSpec)

/-- 'laws.FnExactKeySum', WHERE WHAT IT READS IS OF BULK AT MOST 1048576: true; the input reads as it did. -/
def fnExactKeySumUptoRow : OpenClaim := { program := "ytncckpdglimdoaadoor", sum := "eb1dc360b6bbff83157d7a806302ebe735de2fd67d07141f744f9b58f8d25740", func := "loop.example/g00565/laws.FnExactKeySum", spec := "fnExactKeySum", named := ["loop.example/g00565/impl.pieceStarts"], apart := false, laid := [("loop.example/g00565/impl.pieceStarts", laid_loop_example_g00565_impl_pieceStarts)], narrowed := true }
def FnExactKeySumUptoSaid : Prop := fnExactKeySumUptoRow.holds Tryd.pinned (OpenSpec.upto fnExactKeySumSpec)

/-- 'laws.FnExactKeysRoot', WHERE WHAT IT READS IS OF BULK AT MOST 1048576: true; the input reads as it did. -/
def fnExactKeysRootUptoRow : OpenClaim := { program := "ytncckpdglimdoaadoor", sum := "eb1dc360b6bbff83157d7a806302ebe735de2fd67d07141f744f9b58f8d25740", func := "loop.example/g00565/laws.FnExactKeysRoot", spec := "fnExactKeysRoot", unfollowed := true, recurses := true, named := ["loop.example/g00565/impl.pieceStarts"], apart := false, laid := [("loop.example/g00565/impl.pieceStarts", laid_loop_example_g00565_impl_pieceStarts)], narrowed := true }
def FnExactKeysRootUptoSaid : Prop := fnExactKeysRootUptoRow.holds Tryd.pinned (OpenSpec.upto fnExactKeysRootSpec)

/-- 'laws.FnExactSignSum', WHERE WHAT IT READS IS OF BULK AT MOST 1048576: true; the input reads as it did. -/
def fnExactSignSumUptoRow : OpenClaim := { program := "ytncckpdglimdoaadoor", sum := "eb1dc360b6bbff83157d7a806302ebe735de2fd67d07141f744f9b58f8d25740", func := "loop.example/g00565/laws.FnExactSignSum", spec := "fnExactSignSum", unfollowed := true, recurses := true, named := ["loop.example/g00565/impl.pieceStarts"], apart := false, laid := [("loop.example/g00565/impl.pieceStarts", laid_loop_example_g00565_impl_pieceStarts)], narrowed := true }
def FnExactSignSumUptoSaid : Prop := fnExactSignSumUptoRow.holds Tryd.pinned (OpenSpec.upto fnExactSignSumSpec)

/-- 'laws.FnExactOpenSign', WHERE WHAT IT READS IS OF BULK AT MOST 1048576: true; the input reads as it did. -/
def fnExactOpenSignUptoRow : OpenClaim := { program := "ytncckpdglimdoaadoor", sum := "eb1dc360b6bbff83157d7a806302ebe735de2fd67d07141f744f9b58f8d25740", func := "loop.example/g00565/laws.FnExactOpenSign", spec := "fnExactOpenSign", unfollowed := true, recurses := true, named := ["loop.example/g00565/impl.pieceStarts"], apart := false, laid := [("loop.example/g00565/impl.pieceStarts", laid_loop_example_g00565_impl_pieceStarts)], narrowed := true }
def FnExactOpenSignUptoSaid : Prop := fnExactOpenSignUptoRow.holds Tryd.pinned (OpenSpec.upto fnExactOpenSignSpec)

/-- 'laws.FnExactCheckSign', WHERE WHAT IT READS IS OF BULK AT MOST 1048576: true; the input reads as it did. -/
def fnExactCheckSignUptoRow : OpenClaim := { program := "ytncckpdglimdoaadoor", sum := "eb1dc360b6bbff83157d7a806302ebe735de2fd67d07141f744f9b58f8d25740", func := "loop.example/g00565/laws.FnExactCheckSign", spec := "fnExactCheckSign", unfollowed := true, recurses := true, named := ["loop.example/g00565/impl.pieceStarts"], apart := false, laid := [("loop.example/g00565/impl.pieceStarts", laid_loop_example_g00565_impl_pieceStarts)], narrowed := true }
def FnExactCheckSignUptoSaid : Prop := fnExactCheckSignUptoRow.holds Tryd.pinned (OpenSpec.upto fnExactCheckSignSpec)

end Rows
end Go.Proofs.YtncckpdglimdoaaDoor
