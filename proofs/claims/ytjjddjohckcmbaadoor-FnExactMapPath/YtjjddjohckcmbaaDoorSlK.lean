/- Contracts of the laws' own functions over results of slots: held against each other, marked, still there. -/
import Derived.Test.YtjjddjohckcmbaaDoorSlL
namespace Go.Proofs.YtjjddjohckcmbaaDoor
open Go.ChangeShapes Go.WideShapes Go.ChangeAt Go.RowKit
set_option linter.unusedVariables false
set_option linter.unusedSimpArgs false

set_option maxHeartbeats 2000000 in
theorem markSlotS_any (base : Nat) (a : Option Addr) (c : Nat) (k : Int) (l : List Sl) (w : World) (hown : OwnS w base (.slice a l.length c) l) (hl : l.length ≤ 1048576) (k0 : 0 ≤ k) (k1 : k ≤ 8388608) :
    Calls Tryd.prog 38 #[.slice a l.length c, .int .i64 k] w fun r w' => r = .returned (.int .i64 (k + (l.length * 2 : Nat))) ∧ w'.ownsRow base 50 2 (.slice a l.length c) l.length ((markN k (l.length * 2)).map (.int .i64)) ∧ Mk a w w' := by
  have fl := flat_len l
  have PZ : Hid (markQ k (flat l) 0 = (flat l).map (.int .i64)) := markQ_zero k (flat l)
  have PA : Hid (markQ k (flat l) (l.length * 2) = (markN k (l.length * 2)).map (.int .i64)) := by
    have := markQ_all k (flat l)
    rw [fl] at this
    exact this
  have FL : Hid ((flat l).length = l.length * 2) := fl
  clear fl
  have hown' : w.ownsRow base 50 2 (.slice a l.length c) l.length ((flat l).map (.int .i64)) := hown
  rw [← PZ.out] at hown'
  rcases hown.2 with ⟨e, h0⟩ | ⟨g, cap, cur, e, _⟩
  · obtain rfl : l = [] := List.eq_nil_of_length_eq_zero h0
    simp at e
    obtain ⟨rfl, rfl⟩ := e
    have HO : Hid (_) := hown'
    clear hown hown'
    simp only [List.length_nil] at *
    go_enter Tryd.func38, Tryd.ntmps38
    go_wp2
    refine wp_loop_rounds 1 ?_
    rw [rounds_succ]
    go_wp2
    go_ret
    refine ⟨ret_int (by simp), ?_, Mk.refl _ _⟩
    exact ⟨by simp [markN], .inl ⟨rfl, rfl⟩⟩
  · simp at e
    obtain ⟨rfl, rfl⟩ := e
    clear hown
    go_enter Tryd.func38, Tryd.ntmps38
    go_wp2
    go_loopw [1, 5] (fun kk i wr => ∃ j : Nat, j ≤ l.length ∧ i = .int .i64 j ∧ kk = .int .i64 (k + (j * 2 : Nat)) ∧ wr.ownsRow base 50 2 (.slice (some ⟨g, 0, none⟩) l.length c) l.length (markQ k (flat l) (j * 2)) ∧ Mk (some ⟨g, 0, none⟩) w wr) (fun _ i _ => l.length - (intOf i).toNat)
    case atStart => exact ⟨0, Nat.zero_le _, rfl, by simp, hown', Mk.refl _ _⟩
    case round =>
      clear hown'
      obtain ⟨j, hj, rfl, rfl, hown, hmk⟩ := hrel
      by_cases hlt : j < l.length
      · have hlt' : (j : Int) < (l.length : Int) := by omega
        have p1 : j * 2 < (flat l).length := by rw [FL.out]; omega
        have p2 : j * 2 + 1 < (flat l).length := by rw [FL.out]; omega
        have c1 : wr.cell? ⟨g, j * 2, none⟩ = some (.int .i64 (flat l)[j * 2]) := (hown.cellAt (j * 2) (by omega)).trans (markQ_cell k _ _ p1)
        have f1 := hown.frozenAt (j * 2)
        have s1 := (hown.stored (j * 2) (.int .i64 (k + ((j * 2 : Nat) : Int)))).1
        rw [markQ_set k _ _ p1] at s1
        have c2 : (wr.setCell ⟨g, j * 2, none⟩ (.int .i64 (k + ((j * 2 : Nat) : Int)))).cell? ⟨g, j * 2 + 1, none⟩ = some (.int .i64 (flat l)[j * 2 + 1]) := (s1.cellAt (j * 2 + 1) (by omega)).trans (markQ_cell k _ _ p2)
        have f2 := s1.frozenAt (j * 2 + 1)
        have s2 := (s1.stored (j * 2 + 1) (.int .i64 (k + ((j * 2 + 1 : Nat) : Int)))).1
        rw [markQ_set k _ _ p2] at s2
        have e2 : k + ((j * 2 : Nat) : Int) + 1 = k + ((j * 2 + 1 : Nat) : Int) := by omega
        rw [← e2] at s2
        have HST : Hid (_) := s2
        generalize (flat l)[j * 2] = x at c1
        generalize (flat l)[j * 2 + 1] = y at c2
        have hkj : k + ((j * 2 : Nat) : Int) = k + ((j : Int) * 2) := by omega
        clear s1 s2 hown p1 p2 e2
        rw [hkj] at HST c2 f2 ⊢
        clear hkj
        go_wp2
        go_roundw
        case rel => exact ⟨j + 1, by omega, by go_num, by go_num, by have := HST.out; rw [show (j + 1) * 2 = j * 2 + 1 + 1 by omega]; exact this, (hmk.store _).store _⟩
        case measure => simp [intOf]; omega
      · have hjj : j = l.length := by omega
        have HK : Hid (j = l.length) := hjj
        clear hjj
        go_wp2
        go_ret
        refine ⟨ret_int (by rw [HK.out]), ?_, hmk⟩
        rw [HK.out, PA.out] at hown
        exact hown

end Go.Proofs.YtjjddjohckcmbaaDoor
