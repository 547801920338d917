/- Contracts: the model's draws of chapter 3, from a code. -/
import Derived.Test.YtngibnmcagogaaaDoorBent3
import Derived.Test.YtngibnmcagogaaaDoorApp
namespace Go.Proofs.YtngibnmcagogaaaDoor
open Go.ChangeShapes Go.WideShapes Go.ChangeAt Go.RowKit
set_option maxRecDepth 100000
set_option linter.unusedVariables false
set_option linter.unusedSimpArgs false

set_option maxHeartbeats 1000000 in
theorem drawPackEvent_any (w : World) (a : Option Addr) (len cap : Nat) (zs : List Int) (h : Has w .u8 a len zs) (hl : len ≤ 1048576) :
    Calls Tryd.prog 46 #[.slice a len cap] w fun e w' => ∃ (es ev ek ex : Int) (a' : Option Addr) (c' : Nat) (ys : List Int), e = .returned (.agg #[.int .i64 es, .int .i64 ev, .int .i64 ek, .int .i64 ex, .slice a' ys.length c']) ∧ (-9223372036854775808 ≤ ex ∧ ex ≤ 9223372036854775807) ∧ ys.length ≤ 13 ∧ Has w' .u8 a' ys.length ys ∧ Below w.heap.size w w' := by
  go_enter Tryd.func46, Tryd.ntmps46
  go_wp2_with fail
  refine (source_any _ a len cap zs (h.alloc _) hl).mono ?_
  rintro e u1 ⟨rfl, S1, hb1, hz1⟩
  have z1 := hb1.size
  simp at z1 hz1 S1 hb1
  have q1 : w.heap.size < u1.heap.size := by omega
  have q1' : w.heap.size + 1 < u1.heap.size := by omega
  go_wp2_with fail
  refine (l3Bent_any _ _ _ a len cap zs 0 (by simpa using S1) (by omega)).mono ?_
  rintro e u2 ⟨es, ev, ek, ex, a2, c2, ys, rfl, hxb, hyl, O2, yw, Y2⟩
  have z2 := Y2.size
  have hb12 : Below (w.heap.size + 1) (w.alloc (.cells #[.int .i64 0, .int .i64 0, .int .i64 0, .int .i64 0, .slice none 0 0] 46)) u2 := hb1.trans (Y2.below (by simp) (by omega))
  have P2 := has_of_own O2 yw
  have g0 := (hb12.cell (p := ⟨w.heap.size, 0, none⟩) (by simp)).trans (show _ = some (.int .i64 0) by simp [go_sem])
  have g1 := (hb12.cell (p := ⟨w.heap.size, 1, none⟩) (by simp)).trans (show _ = some (.int .i64 0) by simp [go_sem])
  have g2 := (hb12.cell (p := ⟨w.heap.size, 2, none⟩) (by simp)).trans (show _ = some (.int .i64 0) by simp [go_sem])
  have g3 := (hb12.cell (p := ⟨w.heap.size, 3, none⟩) (by simp)).trans (show _ = some (.int .i64 0) by simp [go_sem])
  have g4 := (hb12.cell (p := ⟨w.heap.size, 4, none⟩) (by simp)).trans (show _ = some (.slice none 0 0) by simp [go_sem])
  have f0 := (hb12.frozen (p := ⟨w.heap.size, 0, none⟩) (by simp)).trans (show _ = false by simp [go_sem])
  have f1 := (hb12.frozen (p := ⟨w.heap.size, 1, none⟩) (by simp)).trans (show _ = false by simp [go_sem])
  have f2 := (hb12.frozen (p := ⟨w.heap.size, 2, none⟩) (by simp)).trans (show _ = false by simp [go_sem])
  have f3 := (hb12.frozen (p := ⟨w.heap.size, 3, none⟩) (by simp)).trans (show _ = false by simp [go_sem])
  have f4 := (hb12.frozen (p := ⟨w.heap.size, 4, none⟩) (by simp)).trans (show _ = false by simp [go_sem])
  have N2 : Below w.heap.size w u2 := ((Below.refl _ _).alloc (Nat.le_refl _) _).trans (hb12.mono (by omega))
  have OO : Hid (World.ownsRow u2 (w.heap.size + 1) 5 1 (.slice a2 ys.length c2) ys.length (ys.map (.int .u8))) := own_mono O2 (by omega)
  have YW : Hid (∀ y ∈ ys, (Lit.int .u8 y).wf = true) := yw
  clear S1 hb1 hb12 O2 Y2 P2 yw
  go_wp2
  refine bodyPost_ret (v := .agg #[.int .i64 es, .int .i64 ev, .int .i64 ek, .int .i64 ex, .slice a2 ys.length c2]) (by simp [results, Tryd.results46, go_sem, g0, g1, g2, g3, g4]) rfl ⟨es, ev, ek, ex, a2, c2, ys, rfl, hxb, hyl, ?_, ?_⟩
  · refine has_of_own (base := w.heap.size + 1) (e := 5) (n := ys.length) (c := c2) ?_ YW.out
    iterate 5 (refine own_set ?_ (by omega) _)
    exact OO.out
  · iterate 5 (refine Below.setCell ?_ (by (try simp) <;> omega) _)
    exact N2

theorem drawPutInt_any (w : World) (a : Option Addr) (len cap : Nat) (zs : List Int) (h : Has w .u8 a len zs) (hl : len ≤ 1048576) :
    Calls Tryd.prog 39 #[.slice a len cap] w fun e w' => ∃ x, e = .returned (.int .i64 x) ∧ -9223372036854775808 ≤ x ∧ x ≤ 9223372036854775807 ∧ Below w.heap.size w w' := by
  go_enter Tryd.func39, Tryd.ntmps39
  go_wp2_with fail
  refine (source_any _ a len cap zs h hl).mono ?_
  rintro e u1 ⟨rfl, S1, hb1, hz1⟩
  go_wp2_with fail
  refine (draw_any _ _ _ a len cap zs 0 S1 (by omega)).mono ?_
  rintro e u2 ⟨x, rfl, x0, x1, S2, Y2⟩
  go_wp2
  go_ret
  exact ⟨x, rfl, x0, x1, after_source hb1 Y2⟩

set_option maxHeartbeats 1000000 in
theorem drawGetInt_any (w : World) (a : Option Addr) (len cap : Nat) (zs : List Int) (h : Has w .u8 a len zs) (hl : len ≤ 1048576) :
    Calls Tryd.prog 40 #[.slice a len cap] w fun e w' => ∃ (a' : Option Addr) (c' : Nat) (ys : List Int) (k : Int), e = .returned (.tuple #[.slice a' ys.length c', .int .i64 k]) ∧ ys.length ≤ 10 ∧ ys.length ≤ c' ∧ c' ≤ maxLen ∧ Has w' .u8 a' ys.length ys ∧ Below w.heap.size w w' := by
  go_enter Tryd.func40, Tryd.ntmps40
  go_wp2_with fail
  refine (source_any _ a len cap zs h hl).mono ?_
  rintro e u1 ⟨rfl, S1, hb1, hz1⟩
  have PH : Hid (_) := pick3 u1 7 8 10 2
  go_wp2_with fail
  refine (pick_any _ _ _ a len cap zs 0 (S1.alloc _) (by omega) u1.heap.size [7, 8, 10] 3 rfl (by simp) (by omega) (by omega) (by omega) 3 PH.out).mono ?_
  rintro e u2 ⟨p, rfl, hp, S2, Y2⟩
  have hp' : 0 ≤ p ∧ p ≤ 10 := by simp at hp; omega
  obtain ⟨m, rfl⟩ : ∃ m : Nat, p = (m : Int) := ⟨p.toNat, by omega⟩
  go_wp2_with fail
  refine (some_any _ _ _ a len cap zs _ m S2 (by omega) (by omega)).mono ?_
  rintro e u3 ⟨a3, c3, ys, rfl, hyl, O3, yw, S3, Y3⟩
  subst hyl
  go_wp2_with fail
  refine (next_any _ _ _ a len cap zs _ 4 S3 (by omega) (by omega) (by omega)).mono ?_
  rintro e u4 ⟨k, rfl, k0, k1, S4, Y4⟩
  go_wp2
  go_ret2
  have O4 := own_only O3 Y4 (by have := Y2.size; simp at this; omega)
  refine ⟨a3, c3, ys, k - 1, rfl, by omega, ?_, ?_, has_of_own O4 yw, after_source hb1 ((((Only.refl _ u1).alloc _).trans Y2).trans (Y3.trans Y4))⟩
  · rcases O3.2 with ⟨e1, e2⟩ | ⟨_, _, _, e1, _, _, h1, _⟩
    · simp at e1; omega
    · simp at e1; omega
  · rcases O3.2 with ⟨e1, e2⟩ | ⟨_, _, _, e1, _, _, _, h1, _⟩
    · simp at e1; rw [e1.2.2]; unfold maxLen; omega
    · simp at e1; rw [e1.2]; exact h1

end Go.Proofs.YtngibnmcagogaaaDoor
