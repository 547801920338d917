/- Contracts and plain facts for the law on heads: bytes held against each other; fields of what the functions of heads answer. -/
import Derived.Test.YtffidkoejlebeaaGreatDoorHdC
import Derived.Test.YtffidkoejlebeaaGreatDoorIEvt
import Derived.Test.YtffidkoejlebeaaGreatDoorRegB
namespace Go.Proofs.YtffidkoejlebeaaGreatDoor
open Go.ChangeShapes Go.WideShapes Go.ChangeAt Go.RowKit
set_option maxRecDepth 100000
set_option linter.unusedVariables false
set_option linter.unusedSimpArgs false

theorem lwBytesH_any (a b : Option Addr) (ca cb : Nat) (zs ys : List Int) (w : World) (ha : Has w .u8 a zs.length zs) (hb : Has w .u8 b ys.length ys) :
    Calls Tryz.prog 12 #[.slice a zs.length ca, .slice b ys.length cb] w fun r w' => r = .returned (.bool (decide (zs = ys))) ∧ w' = w := by
  have s1 := ha.str ca
  have s2 := hb.str cb
  have hst := str_beq ha.2.1 hb.2.1
  have HS : Hid (_) := hst
  clear hst
  go_enter Tryz.func12, Tryz.ntmps12
  go_wp2
  go_ret
  exact ⟨ret_bool HS.out, rfl⟩
theorem own_at9 {w : World} {base e n c : Nat} {a : Option Addr} {xs : List Value} (h : w.ownsRow base e 1 (.slice a n c) n xs) (hn : 0 < n) : ∃ g, a = some ⟨g, 0, none⟩ := by
  rcases h.2 with ⟨e1, h0⟩ | ⟨g, cap, cur, e1, _, _, h1, h2, _⟩
  · omega
  · simp at e1
    exact ⟨g, e1.1⟩
theorem fldE0 (c z r m k : Int) (w : World) : (Instr.field 28 (.agg #[.int .i64 c, .int .i64 z, .int .i64 r, .int .i64 m, .int .i64 k]) 0).run Tryz.prog w = .ok (.int .i64 c) w := by kernel_rfl
theorem fldE1 (c z r m k : Int) (w : World) : (Instr.field 28 (.agg #[.int .i64 c, .int .i64 z, .int .i64 r, .int .i64 m, .int .i64 k]) 1).run Tryz.prog w = .ok (.agg #[.int .i64 z, .int .i64 r, .int .i64 m, .int .i64 k]) w := by kernel_rfl
theorem fldB0 (c : Int) (a : Option Addr) (n d : Nat) (w : World) : (Instr.field 32 (.agg #[.int .i64 c, .slice a n d]) 0).run Tryz.prog w = .ok (.int .i64 c) w := by kernel_rfl
theorem fldB1 (c : Int) (a : Option Addr) (n d : Nat) (w : World) : (Instr.field 32 (.agg #[.int .i64 c, .slice a n d]) 1).run Tryz.prog w = .ok (.slice a n d) w := by kernel_rfl
theorem fldQ0 (c z r m k i : Int) (a b d : Option Addr) (n1 n2 n3 c1 c2 c3 : Nat) (w : World) : (Instr.field 54 (.agg #[.int .i64 c, .int .i64 z, .int .i64 r, .int .i64 m, .int .i64 k, .int .i64 i, .slice a n1 c1, .slice b n2 c2, .slice d n3 c3]) 0).run Tryz.prog w = .ok (.int .i64 c) w := by kernel_rfl
theorem fldQ1 (c z r m k i : Int) (a b d : Option Addr) (n1 n2 n3 c1 c2 c3 : Nat) (w : World) : (Instr.field 54 (.agg #[.int .i64 c, .int .i64 z, .int .i64 r, .int .i64 m, .int .i64 k, .int .i64 i, .slice a n1 c1, .slice b n2 c2, .slice d n3 c3]) 1).run Tryz.prog w = .ok (.agg #[.int .i64 z, .int .i64 r, .int .i64 m, .int .i64 k, .int .i64 i, .slice a n1 c1, .slice b n2 c2, .slice d n3 c3]) w := by kernel_rfl
theorem neqH (z r m k : Int) (w : World) : (binOp BinOp.neq 26 (.agg #[.int .i64 z, .int .i64 r, .int .i64 m, .int .i64 k]) (.agg #[.int .i64 z, .int .i64 r, .int .i64 m, .int .i64 k])).run Tryz.prog w = .ok (.bool false) w := by simp [go_sem]
theorem eqlH (z r m k : Int) (w : World) : (binOp BinOp.eql 26 (.agg #[.int .i64 z, .int .i64 r, .int .i64 m, .int .i64 k]) (.agg #[.int .i64 z, .int .i64 r, .int .i64 m, .int .i64 k])).run Tryz.prog w = .ok (.bool true) w := by simp [go_sem]

end Go.Proofs.YtffidkoejlebeaaGreatDoor
