/- What chapter 8 answers fits into memory. -/
import Derived.Test.YtffidkoejlebeaaDoorKyD
import Derived.Test.YtffidkoejlebeaaDoorKyG
namespace Go.Proofs.YtffidkoejlebeaaDoor
open Go.ChangeShapes Go.WideShapes Go.ChangeAt Go.RowKit
set_option maxRecDepth 100000
set_option linter.unusedVariables false
set_option linter.unusedSimpArgs false

theorem pkL_ok (s i : Int) : (pkL s i).length ≤ 1048576 ∧ ∀ n ∈ pkL s i, (Lit.int .i64 n).wf = true := by
  unfold pkL
  by_cases h : siOk s i = true
  · rw [if_pos h]
    exact ⟨by rw [pubL_len]; decide, allS_wf (pubL_all s i)⟩
  · rw [if_neg h]
    exact ⟨by decide, fun n hn => by cases hn⟩
theorem ssS_ok (s i x : Int) : (ssS s i x).length ≤ 300 ∧ ∀ n ∈ ssS s i x, (Lit.int .i64 n).wf = true := by
  unfold ssS
  by_cases h : ssOk s i x = true
  · rw [if_pos h]
    exact ⟨by rw [shW_len]; decide, allS_wf (shW_all s i x _)⟩
  · rw [if_neg h]
    exact ⟨by decide, fun n hn => by cases hn⟩
theorem ssO_ok (s i x : Int) : (ssO s i x).length ≤ 300 ∧ ∀ n ∈ ssO s i x, (Lit.int .i64 n).wf = true := by
  unfold ssO
  by_cases h : ssOk s i x = true
  · rw [if_pos h]
    exact ⟨by rw [otW_len]; decide, allS_wf (otW_all s i x _)⟩
  · rw [if_neg h]
    exact ⟨by decide, fun n hn => by cases hn⟩
theorem fldG0 (a b : Int) (p q : Option Addr) (n c m d : Nat) (w : World) : (Instr.field 80 (.agg #[.int .i64 a, .int .i64 b, .slice p n c, .slice q m d]) 0).run Tryd.prog w = .ok (.int .i64 a) w := by kernel_rfl
theorem getD_at {l : List Int} {k : Nat} (h : k < l.length) : l[k] = l.getD k 0 := by simp [List.getD, h]

end Go.Proofs.YtffidkoejlebeaaDoor
