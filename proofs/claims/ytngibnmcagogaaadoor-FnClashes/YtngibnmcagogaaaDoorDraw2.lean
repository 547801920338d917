/- Contracts: the model's draws of chapter 2, leaves, nodes and slots. -/
import Derived.Test.YtngibnmcagogaaaDoorSome
namespace Go.Proofs.YtngibnmcagogaaaDoor
open Go.ChangeShapes Go.WideShapes Go.ChangeAt Go.RowKit
set_option maxRecDepth 100000
set_option linter.unusedVariables false
set_option linter.unusedSimpArgs false

set_option maxHeartbeats 2000000 in
theorem drawLeafSum_any (w : World) (a : Option Addr) (len cap : Nat) (zs : List Int) (h : Has w .u8 a len zs) (hl : len ≤ 1048576) :
    Calls Tryd.prog 61 #[.slice a len cap] w fun e w' => ∃ (a' : Option Addr) (c' : Nat) (ys : List Int), e = .returned (.slice a' ys.length c') ∧ Has w' .u8 a' ys.length ys ∧ ys.length ≤ 1000 ∧ Below w.heap.size w w' := by
  go_enter Tryd.func61, Tryd.ntmps61
  go_wp2_with (first | (go_at_call 55; refine (source_any _ a len cap zs h hl).mono ?_; rintro e w1 ⟨rfl, hs1, hb1, hz1⟩) | (go_at_call 57; refine (next_wide _ _ _ a len cap zs _ _ hs1 (by omega) (by omega) (by omega)).mono ?_; rintro e w2 ⟨v, rfl, hv0, hv1, hs2, ho2⟩) | (go_at_call 66; refine (pick_any _ _ _ a len cap zs _ (hs2.alloc _) (by omega) w2.heap.size [v, 0, 250, 251] 4 rfl (by simp) (by have := hs2.lt; omega) (by omega) (by omega) _ (cells_lit w2 _ _ _ rfl)).mono ?_; rintro e w3 ⟨x, rfl, hx, hs3, ho3⟩; have hxb : 0 ≤ x ∧ x ≤ 251 := (by simp at hx; omega); clear hx; obtain ⟨n, rfl⟩ := Int.eq_ofNat_of_zero_le hxb.1) | (go_at_call 59; refine (some_any _ _ _ a len cap zs _ n hs3 (by omega) (by omega)).mono ?_; rintro e w4 ⟨a', c', ys, rfl, rfl, hown, hwf, hs4, ho4⟩))
  go_ret
  exact ⟨a', c', ys, rfl, has_of_own hown hwf, by omega, after_source hb1 (((ho2.alloc _).trans ho3).trans ho4)⟩

theorem drawLeafBytes_any (w : World) (a : Option Addr) (len cap : Nat) (zs : List Int) (h : Has w .u8 a len zs) (hl : len ≤ 1048576) :
    Calls Tryd.prog 14 #[.slice a len cap] w fun e w' => ∃ (a' : Option Addr) (c' : Nat) (ys : List Int), e = .returned (.slice a' ys.length c') ∧ Has w' .u8 a' ys.length ys ∧ ys.length ≤ 1000 ∧ Below w.heap.size w w' := by
  go_enter Tryd.func14, Tryd.ntmps14
  go_wp2_with (go_at_call 61; refine (drawLeafSum_any _ a len cap zs h hl).mono ?_; rintro e w1 ⟨a', c', ys, rfl, H, hn, hb⟩)
  go_ret
  exact ⟨a', c', ys, rfl, H, hn, hb⟩

set_option maxHeartbeats 2000000 in
theorem drawNodeSum_any (w : World) (a : Option Addr) (len cap : Nat) (zs : List Int) (h : Has w .u8 a len zs) (hl : len ≤ 1048576) :
    Calls Tryd.prog 63 #[.slice a len cap] w fun e w' => ∃ x y, e = .returned (.tuple #[.int .i64 x, .int .i64 y]) ∧ Below w.heap.size w w' := by
  have tok1 : True := trivial
  have tok2 : True := trivial
  go_enter Tryd.func63, Tryd.ntmps63
  go_wp2_with (first | (go_at_call 55; refine (source_any _ a len cap zs h hl).mono ?_; rintro e w1 ⟨rfl, hs1, hb1, hz1⟩) | (go_at_call 57; have _t := tok1; refine (next_wide _ _ _ a len cap zs _ _ hs1 (by omega) (by omega) (by omega)).mono ?_; rintro e w2 ⟨v, rfl, hv0, hv1, hs2, ho2⟩; clear tok1 _t) | (go_at_call 66; have _t := tok2; refine (pick_any _ _ _ a len cap zs _ (hs2.alloc _) (by omega) w2.heap.size [v, 0, 65520, 65521] 4 rfl (by simp) (by have := hs2.lt; omega) (by omega) (by omega) _ (cells_lit w2 _ _ _ rfl)).mono ?_; rintro e w3 ⟨x, rfl, hx, hs3, ho3⟩; clear hx; clear tok2 _t) | (go_at_call 57; refine (next_wide _ _ _ a len cap zs _ _ hs3 (by omega) (by omega) (by omega)).mono ?_; rintro e w4 ⟨u, rfl, hu0, hu1, hs4, ho4⟩) | (go_at_call 66; refine (pick_any _ _ _ a len cap zs _ (hs4.alloc _) (by omega) w4.heap.size [u, -1, 5] 3 rfl (by simp) (by have := hs4.lt; omega) (by omega) (by omega) _ (cells_lit w4 _ _ _ rfl)).mono ?_; rintro e w5 ⟨y, rfl, hy, hs5, ho5⟩; clear hy))
  go_ret2
  exact ⟨_, _, rfl, after_source hb1 ((((ho2.alloc _).trans ho3).trans ho4).alloc _ |>.trans ho5)⟩

theorem drawNodeBytes_any (w : World) (a : Option Addr) (len cap : Nat) (zs : List Int) (h : Has w .u8 a len zs) (hl : len ≤ 1048576) :
    Calls Tryd.prog 16 #[.slice a len cap] w fun e w' => ∃ x y, e = .returned (.tuple #[.int .i64 x, .int .i64 y]) ∧ Below w.heap.size w w' := by
  go_enter Tryd.func16, Tryd.ntmps16
  go_wp2_with (go_at_call 63; refine (drawNodeSum_any _ a len cap zs h hl).mono ?_; rintro e w1 ⟨x, y, rfl, hb⟩)
  go_ret2
  exact ⟨_, _, rfl, hb⟩

set_option maxHeartbeats 2000000 in
theorem drawSlotSum_any (w : World) (a : Option Addr) (len cap : Nat) (zs : List Int) (h : Has w .u8 a len zs) (hl : len ≤ 1048576) :
    Calls Tryd.prog 18 #[.slice a len cap] w fun e w' => ∃ x y, e = .returned (.tuple #[.int .i64 x, .int .i64 y]) ∧ Below w.heap.size w w' := by
  have tok1 : True := trivial
  have tok2 : True := trivial
  go_enter Tryd.func18, Tryd.ntmps18
  go_wp2_with (first | (go_at_call 55; refine (source_any _ a len cap zs h hl).mono ?_; rintro e w1 ⟨rfl, hs1, hb1, hz1⟩) | (go_at_call 57; have _t := tok1; refine (next_wide _ _ _ a len cap zs _ _ hs1 (by omega) (by omega) (by omega)).mono ?_; rintro e w2 ⟨v, rfl, hv0, hv1, hs2, ho2⟩; clear tok1 _t) | (go_at_call 66; have _t := tok2; refine (pick_any _ _ _ a len cap zs _ (hs2.alloc _) (by omega) w2.heap.size [v, 64, -1] 3 rfl (by simp) (by have := hs2.lt; omega) (by omega) (by omega) _ (cells_lit w2 _ _ _ rfl)).mono ?_; rintro e w3 ⟨x, rfl, hx, hs3, ho3⟩; clear hx; clear tok2 _t) | (go_at_call 57; refine (next_wide _ _ _ a len cap zs _ _ hs3 (by omega) (by omega) (by omega)).mono ?_; rintro e w4 ⟨u, rfl, hu0, hu1, hs4, ho4⟩) | (go_at_call 66; refine (pick_any _ _ _ a len cap zs _ (hs4.alloc _) (by omega) w4.heap.size [u, 65521] 2 rfl (by simp) (by have := hs4.lt; omega) (by omega) (by omega) _ (cells_lit w4 _ _ _ rfl)).mono ?_; rintro e w5 ⟨y, rfl, hy, hs5, ho5⟩; clear hy))
  go_ret2
  exact ⟨_, _, rfl, after_source hb1 ((((ho2.alloc _).trans ho3).trans ho4).alloc _ |>.trans ho5)⟩

end Go.Proofs.YtngibnmcagogaaaDoor
