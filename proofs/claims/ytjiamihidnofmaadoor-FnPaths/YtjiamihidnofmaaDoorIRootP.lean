/- Contracts: the program's RootOf and PathOf. -/
import Derived.Test.YtjiamihidnofmaaDoorIRoot
import Derived.Test.YtjiamihidnofmaaDoorRootC
namespace Go.Proofs.YtjiamihidnofmaaDoor
open Go.ChangeShapes Go.WideShapes Go.ChangeAt Go.RowKit
set_option linter.unusedVariables false
set_option linter.unusedSimpArgs false

theorem fldC0 (x : Int) (a : Option Addr) (n c : Nat) (w : World) : (Instr.field 96 (.agg #[.int .i64 x, .slice a n c]) 0).run Tryd.prog w = .ok (.int .i64 x) w := by kernel_rfl
theorem fldC1 (x : Int) (a : Option Addr) (n c : Nat) (w : World) : (Instr.field 96 (.agg #[.int .i64 x, .slice a n c]) 1).run Tryd.prog w = .ok (.slice a n c) w := by kernel_rfl

set_option maxHeartbeats 2000000 in
theorem implRootOf_any (x : Option Addr) (c : Nat) (zs : List Int) (w : World) (hT : Tab w) (hp : Has w .i64 x zs.length zs) (hl : zs.length ≤ 1048576) (hc : zs.length ≤ c) (hm : c ≤ maxLen) :
    Calls Tryd.prog 36 #[.slice x zs.length c] w fun r w' => r = .returned (.agg #[.int .i64 (lvF zs), .int .i64 (rtV zs)]) ∧ Below w.heap.size w w' := by
  by_cases h0 : lvF zs = 0
  · have hV : rtV zs = rtM nS 11 zs := by unfold rtV; rw [if_pos h0]
    obtain ⟨h24, hall⟩ := lvF_zero h0
    have H0 : Hid (lvF zs = 0) := h0
    rw [hV, h0]
    clear hV h0
    have F0 := fldC0
    go_enter Tryd.func36, Tryd.ntmps36
    go_wp2_with fail
    refine (implLeavesFault_any x c zs _ (hp.alloc _) hl).mono ?_
    rintro r u ⟨rfl, rfl⟩
    rw [H0.out]
    go_wp2_with fail
    refine (climbLeaves_any x c zs 0 _ (hT.alloc _) (hp.alloc _) h24 hall (by omega) (by omega) hc hm).mono ?_
    rintro r u ⟨pa, pc, rfl, _, hb1⟩
    obtain ⟨hc1, hf1⟩ := bcell hb1
    have hz1 := hb1.size
    simp at hz1
    go_wp2
    refine bodyPost_ret (v := .agg #[.int .i64 0, .int .i64 (rtM nS 11 zs)]) (by simp [results, Tryd.results36, go_sem, hc1]) rfl ⟨rfl, ?_⟩
    repeat (first | exact Below.refl _ _ | (refine Below.alloc ?_ (by (try simp) <;> omega) _) | (refine Below.setCell ?_ (by (try simp) <;> omega) _) | (refine Below.trans ?_ (hb1.mono (by (try simp) <;> omega))))
  · have hV : rtV zs = 0 := by unfold rtV; rw [if_neg h0]
    have h0' : (lvF zs != 0) = true := by simpa using h0
    rw [hV]
    clear hV h0
    generalize hcc : lvF zs = cc at *
    have HC : Hid (lvF zs = cc) := hcc
    clear hcc
    go_enter Tryd.func36, Tryd.ntmps36
    go_wp2_with fail
    refine (implLeavesFault_any x c zs _ (hp.alloc _) hl).mono ?_
    rintro r u ⟨rfl, rfl⟩
    rw [HC.out]
    go_wp2
    refine bodyPost_ret (v := .agg #[.int .i64 cc, .int .i64 0]) (by simp [results, Tryd.results36, go_sem]) rfl ⟨rfl, ?_⟩
    repeat (first | exact Below.refl _ _ | (refine Below.alloc ?_ (by (try simp) <;> omega) _) | (refine Below.setCell ?_ (by (try simp) <;> omega) _))

set_option maxHeartbeats 2000000 in
theorem implPathOf_any (x : Option Addr) (c : Nat) (zs : List Int) (a : Int) (w : World) (hT : Tab w) (hp : Has w .i64 x zs.length zs) (hl : zs.length ≤ 1048576) (hc : zs.length ≤ c) (hm : c ≤ maxLen) :
    Calls Tryd.prog 26 #[.slice x zs.length c, .int .i64 a] w fun r w' => ∃ pa pc, r = .returned (.agg #[.int .i64 (ptC zs a), .slice pa (ptL zs a).length pc]) ∧ w'.ownsRow w.heap.size 2 1 (.slice pa (ptL zs a).length pc) (ptL zs a).length ((ptL zs a).map (.int .i64)) ∧ Below w.heap.size w w' := by
  by_cases h0 : lvF zs = 0
  · obtain ⟨h24, hall⟩ := lvF_zero h0
    have H0 : Hid (lvF zs = 0) := h0
    by_cases hin : 0 ≤ a ∧ a < zs.length
    · have hC : ptC zs a = 0 := by unfold ptC; rw [if_pos h0, if_pos hin]
      have hL : ptL zs a = ptM nS 11 zs a := by unfold ptL; rw [if_pos ⟨h0, hin⟩]
      rw [hC, hL]
      obtain ⟨a0, a1⟩ := hin
      clear hC hL h0
      have F1 := fldC1
      go_enter Tryd.func26, Tryd.ntmps26
      go_wp2_with fail
      refine (implLeavesFault_any x c zs _ (hp.alloc _) hl).mono ?_
      rintro r u ⟨rfl, rfl⟩
      rw [H0.out]
      go_wp2_with fail
      refine (climbLeaves_any x c zs a _ (hT.alloc _) (hp.alloc _) h24 hall a0 (.inl a1) hc hm).mono ?_
      rintro r u ⟨pa, pc, rfl, hown, hb1⟩
      obtain ⟨hc1, hf1⟩ := bcell hb1
      have hz1 := hb1.size
      simp at hz1
      have HO : Hid (u.ownsRow (w.heap.size + 1) 2 1 (.slice pa (ptM nS 11 zs a).length pc) (ptM nS 11 zs a).length ((ptM nS 11 zs a).map (.int .i64))) := by
        show World.ownsRow _ _ _ _ _ _ _
        simpa using hown
      clear hown
      go_wp2
      refine bodyPost_ret (v := .agg #[.int .i64 0, .slice pa (ptM nS 11 zs a).length pc]) (by simp [results, Tryd.results26, go_sem, hc1]) rfl ⟨pa, pc, rfl, ?_, ?_⟩
      · have fs : Fr (fun k => k = w.heap.size) u ((u.setCell ⟨w.heap.size, 0, none⟩ (.int .i64 0)).setCell ⟨w.heap.size, 1, none⟩ (.slice pa (ptM nS 11 zs a).length pc)) := by
          refine Fr.setCell (Fr.setCell (Fr.refl _ _) _ _ ?_) _ _ ?_ <;> rfl
        have h5 := own_fr HO.out fs (fun g e1 e2 => by have := (HO.out.lt g e1).1; omega)
        refine ⟨h5.1, ?_⟩
        rcases h5.2 with h6 | ⟨g, cap, cur, e1, e2, e3⟩
        · exact .inl h6
        · exact .inr ⟨g, cap, cur, e1, by omega, e3⟩
      · repeat (first | exact Below.refl _ _ | (refine Below.alloc ?_ (by (try simp) <;> omega) _) | (refine Below.setCell ?_ (by (try simp) <;> omega) _) | (refine Below.trans ?_ (hb1.mono (by (try simp) <;> omega))))
    · have hC : ptC zs a = 3 := by unfold ptC; rw [if_pos h0, if_neg hin]
      have hL : ptL zs a = [] := by unfold ptL; rw [if_neg (fun h => hin h.2)]
      rw [hC, hL]
      clear hC hL h0
      by_cases ha : a < 0
      · go_enter Tryd.func26, Tryd.ntmps26
        go_wp2_with fail
        refine (implLeavesFault_any x c zs _ (hp.alloc _) hl).mono ?_
        rintro r u ⟨rfl, rfl⟩
        rw [H0.out]
        go_wp2
        refine bodyPost_ret (v := .agg #[.int .i64 3, .slice none 0 0]) (by simp [results, Tryd.results26, go_sem]) rfl ⟨none, 0, rfl, World.ownsRow_nil _ _ _ _, ?_⟩
        repeat (first | exact Below.refl _ _ | (refine Below.alloc ?_ (by (try simp) <;> omega) _) | (refine Below.setCell ?_ (by (try simp) <;> omega) _))
      · have ha' : (zs.length : Int) ≤ a := by omega
        clear hin
        go_enter Tryd.func26, Tryd.ntmps26
        go_wp2_with fail
        refine (implLeavesFault_any x c zs _ (hp.alloc _) hl).mono ?_
        rintro r u ⟨rfl, rfl⟩
        rw [H0.out]
        go_wp2
        refine bodyPost_ret (v := .agg #[.int .i64 3, .slice none 0 0]) (by simp [results, Tryd.results26, go_sem]) rfl ⟨none, 0, rfl, World.ownsRow_nil _ _ _ _, ?_⟩
        repeat (first | exact Below.refl _ _ | (refine Below.alloc ?_ (by (try simp) <;> omega) _) | (refine Below.setCell ?_ (by (try simp) <;> omega) _))
  · have hC : ptC zs a = lvF zs := by unfold ptC; rw [if_neg h0]
    have hL : ptL zs a = [] := by unfold ptL; rw [if_neg (fun h => h0 h.1)]
    have h0' : (lvF zs != 0) = true := by simpa using h0
    rw [hC, hL]
    clear hC hL h0
    generalize hcc : lvF zs = cc at *
    have HC : Hid (lvF zs = cc) := hcc
    clear hcc
    go_enter Tryd.func26, Tryd.ntmps26
    go_wp2_with fail
    refine (implLeavesFault_any x c zs _ (hp.alloc _) hl).mono ?_
    rintro r u ⟨rfl, rfl⟩
    rw [HC.out]
    go_wp2
    refine bodyPost_ret (v := .agg #[.int .i64 cc, .slice none 0 0]) (by simp [results, Tryd.results26, go_sem]) rfl ⟨none, 0, rfl, World.ownsRow_nil _ _ _ _, ?_⟩
    repeat (first | exact Below.refl _ _ | (refine Below.alloc ?_ (by (try simp) <;> omega) _) | (refine Below.setCell ?_ (by (try simp) <;> omega) _))

end Go.Proofs.YtjiamihidnofmaaDoor
