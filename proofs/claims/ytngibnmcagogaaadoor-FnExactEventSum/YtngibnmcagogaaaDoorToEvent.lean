/- Contracts of the laws' own functions over events: copied, held against each other, their size. -/
import Derived.Test.YtngibnmcagogaaaDoorToClash
import Derived.Test.YtngibnmcagogaaaDoorISums
import Derived.Test.YtngibnmcagogaaaDoorMarkI
namespace Go.Proofs.YtngibnmcagogaaaDoor
open Go.ChangeShapes Go.WideShapes Go.ChangeAt Go.RowKit
set_option maxRecDepth 100000
set_option linter.unusedVariables false
set_option linter.unusedSimpArgs false

set_option maxHeartbeats 4000000 in
theorem toEvent_any (s v k x : Int) (a : Option Addr) (c : Nat) (zs : List Int) (w : World) (ha : Has w .u8 a zs.length zs) (hl : zs.length ≤ 1048576) :
    Calls Tryd.prog 53 #[.agg #[.int .i64 s, .int .i64 v, .int .i64 k, .int .i64 x, .slice a zs.length c]] w fun r w' => r = .returned (.agg #[.int .i64 s, .int .i64 v, .int .i64 k, .int .i64 x, .slice (some ⟨w.heap.size + 1 + 1 + 1, 0, none⟩) zs.length zs.length]) ∧ w'.ownsRow (w.heap.size + 1 + 1 + 1) 5 1 (.slice (some ⟨w.heap.size + 1 + 1 + 1, 0, none⟩) zs.length zs.length) zs.length (zs.map (.int .u8)) ∧ Below w.heap.size w w' := by
  go_enter Tryd.func53, Tryd.ntmps53
  go_wp2_with fail
  refine (toBytes_any a zs.length c zs _ (((ha.alloc _).alloc _).alloc _) hl).mono ?_
  rintro r u1 ⟨rfl, O1, hb1⟩
  have hy1 := hb1.size
  simp at hy1
  have O1' : u1.ownsRow (w.heap.size + 1 + 1 + 1) 5 1 (.slice (some ⟨w.heap.size + 1 + 1 + 1, 0, none⟩) zs.length zs.length) zs.length (zs.map (.int .u8)) := by simpa using O1
  have hT1 : Below w.heap.size w u1 := ((((Below.refl _ _).alloc (Nat.le_refl _) _).alloc (by simp) _).alloc (by simp; omega) _).trans (hb1.mono (by simp; omega))
  have r0 := hb1.cell (p := ⟨w.heap.size + 1, 0, none⟩) (by simp)
  have q0 := hb1.cell (p := ⟨w.heap.size + 1 + 1, 0, none⟩) (by simp)
  have g0 := hb1.frozen (p := ⟨w.heap.size + 1, 0, none⟩) (by simp)
  have r1 := hb1.cell (p := ⟨w.heap.size + 1, 1, none⟩) (by simp)
  have q1 := hb1.cell (p := ⟨w.heap.size + 1 + 1, 1, none⟩) (by simp)
  have g1 := hb1.frozen (p := ⟨w.heap.size + 1, 1, none⟩) (by simp)
  have r2 := hb1.cell (p := ⟨w.heap.size + 1, 2, none⟩) (by simp)
  have q2 := hb1.cell (p := ⟨w.heap.size + 1 + 1, 2, none⟩) (by simp)
  have g2 := hb1.frozen (p := ⟨w.heap.size + 1, 2, none⟩) (by simp)
  have r3 := hb1.cell (p := ⟨w.heap.size + 1, 3, none⟩) (by simp)
  have q3 := hb1.cell (p := ⟨w.heap.size + 1 + 1, 3, none⟩) (by simp)
  have g3 := hb1.frozen (p := ⟨w.heap.size + 1, 3, none⟩) (by simp)
  have r4 := hb1.cell (p := ⟨w.heap.size + 1, 4, none⟩) (by simp)
  have q4 := hb1.cell (p := ⟨w.heap.size + 1 + 1, 4, none⟩) (by simp)
  have g4 := hb1.frozen (p := ⟨w.heap.size + 1, 4, none⟩) (by simp)
  have k4 := hb1.frozen (p := ⟨w.heap.size + 1 + 1, 4, none⟩) (by simp)
  simp [go_sem] at r0 q0 g0 r1 q1 g1 r2 q2 g2 r3 q3 g3 r4 q4 g4 k4
  clear hb1 O1
  go_wp2
  refine bodyPost_ret (v := .agg #[.int .i64 s, .int .i64 v, .int .i64 k, .int .i64 x, .slice (some ⟨w.heap.size + 1 + 1 + 1, 0, none⟩) zs.length zs.length]) (by simp [results, Tryd.results53, go_sem, r0, r1, r2, r3, r4, q0, q1, q2, q3, q4]) rfl ⟨by simp, ?_, ?_⟩
  · iterate 6 (refine own_set ?_ (by omega) _)
    exact O1'
  · iterate 6 (refine Below.setCell ?_ (by (try simp) <;> omega) _)
    exact hT1

theorem toEventX_any (s v k x : Int) (a : Option Addr) (c : Nat) (zs : List Int) (w : World) (ha : Has w .u8 a zs.length zs) (hl : zs.length ≤ 1048576) :
    Calls Tryd.prog 53 #[.agg #[.int .i64 s, .int .i64 v, .int .i64 k, .int .i64 x, .slice a zs.length c]] w fun r w' => ∃ g, r = .returned (.agg #[.int .i64 s, .int .i64 v, .int .i64 k, .int .i64 x, .slice (some ⟨g, 0, none⟩) zs.length zs.length]) ∧ Has w' .u8 (some ⟨g, 0, none⟩) zs.length zs ∧ w.heap.size < g ∧ g < w'.heap.size ∧ Below w.heap.size w w' := by
  refine (toEvent_any s v k x a c zs w ha hl).mono ?_
  rintro r w' ⟨rfl, ho, hb⟩
  have hlt : w.heap.size + 1 + 1 + 1 < w'.heap.size := by
    rcases ho.2 with ⟨e1, _⟩ | ⟨g, _, _, e1, _, hg, _⟩
    · simp at e1
    · simp at e1
      obtain ⟨rfl, rfl⟩ := e1
      exact (Array.getElem?_eq_some_iff.1 hg).1
  exact ⟨w.heap.size + 1 + 1 + 1, rfl, Has.of_own ho hlt ha.2.1, by omega, hlt, hb⟩

set_option maxHeartbeats 1000000 in
theorem szEvent_any (s v k x : Int) (a : Option Addr) (n c : Nat) (w : World) (hn : n ≤ 9223372036854775807) :
    Calls Tryd.prog 51 #[.agg #[.int .i64 s, .int .i64 v, .int .i64 k, .int .i64 x, .slice a n c], .int .i64 1048576] w fun r w' => r = .returned (.int .i64 (if n ≤ 1048576 then 1048576 - n else -1)) ∧ Below w.heap.size w w' := by
  by_cases h1 : n ≤ 1048576
  · have e1 : (if (1048576 : Int) - (n : Int) < 0 then -1 else 1048576 - (n : Int)) = 1048576 - (n : Int) := by rw [if_neg (by omega)]
    rw [if_pos h1]
    have k1 : 0 ≤ (1048576 : Int) - (n : Int) := by omega
    go_enter Tryd.func51, Tryd.ntmps51
    go_wp2_with (go_at_call 89; refine (szByteS_any a n c _ _ (by omega) (by omega) hn).mono ?_; rintro r u ⟨rfl, rfl⟩)
    go_ret
    exact ⟨rfl, (Below.refl _ _).alloc (Nat.le_refl _) _⟩
  · have e1 : (if (1048576 : Int) - (n : Int) < 0 then -1 else 1048576 - (n : Int)) = -1 := by rw [if_pos (by omega)]
    rw [if_neg h1]
    go_enter Tryd.func51, Tryd.ntmps51
    go_wp2_with (go_at_call 89; refine (szByteS_any a n c _ _ (by omega) (by omega) hn).mono ?_; rintro r u ⟨rfl, rfl⟩)
    go_ret
    exact ⟨rfl, (Below.refl _ _).alloc (Nat.le_refl _) _⟩

set_option maxHeartbeats 1000000 in
theorem eqEvent_any (s v k x : Int) (a b : Option Addr) (ca cb : Nat) (zs : List Int) (w : World) (ha : Has w .u8 a zs.length zs) (hb : Has w .u8 b zs.length zs) (hl : zs.length ≤ 1048576) :
    Calls Tryd.prog 54 #[.agg #[.int .i64 s, .int .i64 v, .int .i64 k, .int .i64 x, .slice a zs.length ca], .agg #[.int .i64 s, .int .i64 v, .int .i64 k, .int .i64 x, .slice b zs.length cb]] w fun r w' => r = .returned (.bool true) ∧ Below w.heap.size w w' := by
  have e0 : (s != s) = false := by simp
  have e1 : (v != v) = false := by simp
  have e2 : (k != k) = false := by simp
  have e3 : (x != x) = false := by simp
  go_enter Tryd.func54, Tryd.ntmps54
  go_wp2_with (go_at_call 31; refine (eqBytes_any a b ca cb zs _ ((ha.alloc _).alloc _) ((hb.alloc _).alloc _) hl).mono ?_; rintro r u1 ⟨rfl, hb1⟩)
  go_ret
  exact ⟨rfl, (((Below.refl _ _).alloc (Nat.le_refl _) _).alloc (by simp) _).trans (hb1.mono (by simp; omega))⟩

set_option maxHeartbeats 1000000 in
theorem szEventL_any (s v k x : Int) (a : Option Addr) (n c : Nat) (L : Int) (w : World) (hn : n ≤ 9223372036854775807) (hL0 : 0 ≤ L) (hL1 : L ≤ 1048576) :
    Calls Tryd.prog 51 #[.agg #[.int .i64 s, .int .i64 v, .int .i64 k, .int .i64 x, .slice a n c], .int .i64 L] w fun r w' => r = .returned (.int .i64 (if (n : Int) ≤ L then L - n else -1)) ∧ Below w.heap.size w w' := by
  by_cases h1 : (n : Int) ≤ L
  · have e1 : (if L - (n : Int) < 0 then -1 else L - (n : Int)) = L - (n : Int) := by rw [if_neg (by omega)]
    rw [if_pos h1]
    have k1 : 0 ≤ L - (n : Int) := by omega
    go_enter Tryd.func51, Tryd.ntmps51
    go_wp2_with (go_at_call 89; refine (szByteS_any a n c _ _ (by omega) (by omega) hn).mono ?_; rintro r u ⟨rfl, rfl⟩)
    go_ret
    exact ⟨rfl, (Below.refl _ _).alloc (Nat.le_refl _) _⟩
  · have e1 : (if L - (n : Int) < 0 then -1 else L - (n : Int)) = -1 := by rw [if_pos (by omega)]
    rw [if_neg h1]
    go_enter Tryd.func51, Tryd.ntmps51
    go_wp2_with (go_at_call 89; refine (szByteS_any a n c _ _ (by omega) (by omega) hn).mono ?_; rintro r u ⟨rfl, rfl⟩)
    go_ret
    exact ⟨rfl, (Below.refl _ _).alloc (Nat.le_refl _) _⟩

end Go.Proofs.YtngibnmcagogaaaDoor
