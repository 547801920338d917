/- Contracts of the laws' own functions over clashes: copied, held against each other, their size. -/
import Derived.Test.YtnlipmfhilgipabClash
namespace Go.Proofs.Ytnlipmfhilgipab
open Go.ChangeShapes Go.WideShapes Go.ChangeAt Go.RowKit
set_option maxRecDepth 100000
set_option linter.unusedVariables false
set_option linter.unusedSimpArgs false

theorem szByteS_any (a : Option Addr) (len cap : Nat) (n : Int) (w : World) (hn : -1 ≤ n) (hn2 : n ≤ 1048576) (hl : len ≤ 9223372036854775807) :
    Calls Try.prog 9 #[.slice a len cap, .int .i64 n] w fun r w' => r = .returned (.int .i64 (if n - len < 0 then -1 else n - len)) ∧ w' = w := by
  by_cases h : n - (len : Int) < 0
  · rw [if_pos h]
    go_enter Try.func9, Try.ntmps9
    go_wp2
    go_ret
    exact ⟨rfl, rfl⟩
  · rw [if_neg h]
    have h' : 0 ≤ n - (len : Int) := by omega
    go_enter Try.func9, Try.ntmps9
    go_wp2
    go_ret
    exact ⟨rfl, rfl⟩

theorem Has.setCell {w : World} {k : IntKind} {g o len : Nat} {zs : List Int} (h : Has w k (some ⟨g, o, none⟩) len zs) {b p : Nat} (hne : b ≠ g) (u : Value) : Has (w.setCell ⟨b, p, none⟩ u) k (some ⟨g, o, none⟩) len zs := by
  refine ⟨h.1, h.2.1, h.2.2.imp id ?_⟩
  rintro ⟨b', off, hb, hlt, hc⟩
  simp at hb
  obtain ⟨rfl, rfl⟩ := hb
  exact ⟨g, o, rfl, by simpa using hlt, fun i hi => (World.cell?_of_block (w := w) (Below.heap_setCell w ⟨b, p, none⟩ u g (Ne.symm hne))).trans (hc i hi)⟩

end Go.Proofs.Ytnlipmfhilgipab
