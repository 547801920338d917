/- Contracts: the program's RootOf and PathOf. -/
import Derived.Test.YtlmjppglaolccaaDoorIRoot
import Derived.Test.YtlmjppglaolccaaDoorRootC
namespace Go.Proofs.YtlmjppglaolccaaDoor
open Go.ChangeShapes Go.WideShapes Go.ChangeAt Go.RowKit
set_option linter.unusedVariables false
set_option linter.unusedSimpArgs false

theorem fldC0 (x : Int) (a : Option Addr) (n c : Nat) (w : World) : (Instr.field 74 (.agg #[.int .i64 x, .slice a n c]) 0).run Tryd.prog w = .ok (.int .i64 x) w := by kernel_rfl
theorem fldC1 (x : Int) (a : Option Addr) (n c : Nat) (w : World) : (Instr.field 74 (.agg #[.int .i64 x, .slice a n c]) 1).run Tryd.prog w = .ok (.slice a n c) w := by kernel_rfl

set_option maxHeartbeats 2000000 in
theorem implRootOf_any (x : Option Addr) (c : Nat) (zs : List Int) (w : World) (hT : Tab w) (hp : Has w .i64 x zs.length zs) (hl : zs.length ≤ 1048576) (hc : zs.length ≤ c) (hm : c ≤ maxLen) :
    Calls Tryd.prog 20 #[.slice x zs.length c] w fun r w' => r = .returned (.agg #[.int .i64 (lvF zs), .int .i64 (rtV zs)]) ∧ Below w.heap.size w w' := by
  by_cases h0 : lvF zs = 0
  · have hV : rtV zs = rtM nS 11 zs := by unfold rtV; rw [if_pos h0]
    obtain ⟨h24, hall⟩ := lvF_zero h0
    have H0 : Hid (lvF zs = 0) := h0
    rw [hV, h0]
    clear hV h0
    have F0 := fldC0
    go_enter Tryd.func20, Tryd.ntmps20
    go_wp2_with fail
    refine (implLeavesFault_any x c zs _ (hp.alloc _) hl).mono ?_
    rintro r u ⟨rfl, rfl⟩
    rw [H0.out]
    go_wp2_with fail
    refine (climbLeaves_any x c zs 0 _ (hT.alloc _) (hp.alloc _) h24 hall (by omega) (by omega) hc hm).mono ?_
    rintro r u ⟨pa, pc, rfl, _, hb1⟩
    obtain ⟨hc1, hf1⟩ := bcell hb1
    have hz1 := hb1.size
    simp at hz1
    go_wp2
    refine bodyPost_ret (v := .agg #[.int .i64 0, .int .i64 (rtM nS 11 zs)]) (by simp [results, Tryd.results20, go_sem, hc1]) rfl ⟨rfl, ?_⟩
    repeat (first | exact Below.refl _ _ | (refine Below.alloc ?_ (by (try simp) <;> omega) _) | (refine Below.setCell ?_ (by (try simp) <;> omega) _) | (refine Below.trans ?_ (hb1.mono (by (try simp) <;> omega))))
  · have hV : rtV zs = 0 := by unfold rtV; rw [if_neg h0]
    have h0' : (lvF zs != 0) = true := by simpa using h0
    rw [hV]
    clear hV h0
    generalize hcc : lvF zs = cc at *
    have HC : Hid (lvF zs = cc) := hcc
    clear hcc
    go_enter Tryd.func20, Tryd.ntmps20
    go_wp2_with fail
    refine (implLeavesFault_any x c zs _ (hp.alloc _) hl).mono ?_
    rintro r u ⟨rfl, rfl⟩
    rw [HC.out]
    go_wp2
    refine bodyPost_ret (v := .agg #[.int .i64 cc, .int .i64 0]) (by simp [results, Tryd.results20, go_sem]) rfl ⟨rfl, ?_⟩
    repeat (first | exact Below.refl _ _ | (refine Below.alloc ?_ (by (try simp) <;> omega) _) | (refine Below.setCell ?_ (by (try simp) <;> omega) _))

end Go.Proofs.YtlmjppglaolccaaDoor
