/- Contracts: numbers held against each other by the laws; a clash that was found is one. -/
import Derived.Test.YtjjddjohckcmbaaDoorPathsP
import Derived.Test.YtjjddjohckcmbaaDoorExc
import Derived.Test.YtjjddjohckcmbaaDoorIClash
namespace Go.Proofs.YtjjddjohckcmbaaDoor
open Go.ChangeShapes Go.WideShapes Go.ChangeAt Go.RowKit
set_option linter.unusedVariables false
set_option linter.unusedSimpArgs false

/-- Two rows begin alike. -/
structure AsFar (xs ys : List Int) (k : Nat) : Prop where
  out : xs.take k = ys.take k

theorem found_any {x : List Int × List Int} (hx : isCl x) (a b : Option Addr) (ca cb : Nat) (w : World) (ha : Has w .u8 a x.1.length x.1) (hb : Has w .u8 b x.2.length x.2) :
    Calls Tryd.prog 32 #[.agg #[.bool true, .slice a x.1.length ca, .slice b x.2.length cb]] w fun r w' => r = .returned (.bool true) ∧ Below w.heap.size w w' := by
  obtain ⟨h1, h2, h3, _, _⟩ := hx
  have := implIsClash_any true a b ca cb x.1 x.2 w ha hb (by omega) (by omega)
  rw [show isClashB true x.1 x.2 = true by unfold isClashB; simp [h2, h3, h1]] at this
  exact this

theorem fldQ0 (x : Int) (f : Bool) (a b : Option Addr) (n m c d : Nat) (w : World) : (Instr.field 47 (.agg #[.int .i64 x, .bool f, .slice a n c, .slice b m d]) 0).run Tryd.prog w = .ok (.int .i64 x) w := by kernel_rfl

end Go.Proofs.YtjjddjohckcmbaaDoor
