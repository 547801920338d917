/- Contracts: numbers held against each other by the laws; a clash that was found is one. -/
import Derived.Test.YtklhkhlmhddmcaaDoorPathsP
import Derived.Test.YtklhkhlmhddmcaaDoorExc
import Derived.Test.YtklhkhlmhddmcaaDoorIClash
namespace Go.Proofs.YtklhkhlmhddmcaaDoor
open Go.ChangeShapes Go.WideShapes Go.ChangeAt Go.RowKit
set_option linter.unusedVariables false
set_option linter.unusedSimpArgs false

/-- Two rows begin alike. -/
structure AsFar (xs ys : List Int) (k : Nat) : Prop where
  out : xs.take k = ys.take k

set_option maxHeartbeats 1000000 in
theorem numsG_any (a b : Option Addr) (ca cb : Nat) (xs ys : List Int) (w : World) (ha : Has w .i64 a xs.length xs) (hb : Has w .i64 b ys.length ys) (hlen : xs.length ≤ 1048576) :
    Calls Tryd.prog 17 #[.slice a xs.length ca, .slice b ys.length cb] w fun r w' => r = .returned (.bool (decide (xs = ys))) ∧ Below w.heap.size w w' := by
  by_cases hl : xs.length = ys.length
  · have HL : Hid (xs.length = ys.length) := hl
    have hll : ((xs.length : Int) != (xs.length : Int)) = false := by simp
    have ha' := ha.2.2
    have hb' := hb.2.2
    rw [← hl] at hb' ⊢
    rcases ha' with h0 | ⟨b1, o1, rfl, _, hc1⟩
    · have h1 : xs = [] := List.eq_nil_of_length_eq_zero h0
      have h2 : ys = [] := List.eq_nil_of_length_eq_zero (by omega)
      subst h1 h2
      clear h0 hb' ha hb hl HL
      simp only [List.length_nil] at *
      go_enter Tryd.func17, Tryd.ntmps17
      go_wp2
      refine wp_loop_rounds 1 ?_
      rw [rounds_succ]
      go_wp2
      go_ret
      exact ⟨by simp, Below.refl _ _⟩
    · rcases hb' with h0 | ⟨b2, o2, rfl, _, hc2⟩
      · have h1 : xs = [] := List.eq_nil_of_length_eq_zero h0
        have h2 : ys = [] := List.eq_nil_of_length_eq_zero (by omega)
        subst h1 h2
        clear h0 hc1 ha hb hl HL
        simp only [List.length_nil] at *
        go_enter Tryd.func17, Tryd.ntmps17
        go_wp2
        refine wp_loop_rounds 1 ?_
        rw [rounds_succ]
        go_wp2
        go_ret
        exact ⟨by simp, Below.refl _ _⟩
      · clear ha hb hl
        go_enter Tryd.func17, Tryd.ntmps17
        go_wp2
        go_loopw [5] (fun i wr => ∃ k n : Nat, k ≤ xs.length ∧ i = .int .i64 k ∧ AsFar xs ys k ∧ wr = w.drewN n) (fun i _ => xs.length - (intOf i).toNat)
        case atStart => exact ⟨0, 0, Nat.zero_le _, rfl, ⟨by simp⟩, rfl⟩
        case round =>
          obtain ⟨k, n, hk, rfl, HTK, rfl⟩ := hrel
          by_cases hlt : k < xs.length
          · have hlt2 : k < ys.length := by have := HL.out; omega
            have e1 : w.cell? ⟨b1, o1 + k, none⟩ = some (.int .i64 xs[k]) := by rw [hc1 k hlt]; simp [List.getD, hlt]
            have e2 : w.cell? ⟨b2, o2 + k, none⟩ = some (.int .i64 ys[k]) := by rw [hc2 k hlt]; simp [List.getD, hlt2]
            have hlt' : (k : Int) < (xs.length : Int) := by omega
            clear hc1 hc2
            by_cases heq : xs[k] = ys[k]
            · have e3 : (xs[k] != ys[k]) = false := by simpa using heq
              have HN : AsFar xs ys (k + 1) := by
                refine ⟨?_⟩
                rw [List.take_succ_eq_append_getElem hlt, List.take_succ_eq_append_getElem hlt2, HTK.out, heq]
              rw [← heq] at e2
              clear heq e3
              have e3 : (xs[k] != xs[k]) = false := by simp
              generalize xs[k] = v1 at *
              go_wp2
              go_quiet (fail)
              go_wp2
              go_roundw
              case rel => exact ⟨k + 1, _, by omega, by go_num, HN, rfl⟩
              case measure => simp [intOf]; omega
            · have e3 : (xs[k] != ys[k]) = true := by simpa using heq
              have HD : Hid (decide (xs = ys) = false) := by
                show _ = _
                simp only [decide_eq_false_iff_not]
                intro h
                subst h
                exact heq rfl
              have e4 : decide (xs[k] = ys[k]) = false := by simpa using heq
              generalize xs[k] = v1 at *
              generalize ys[k] = v2 at *
              go_wp2
              go_quiet (fail)
              go_wp2
              go_ret
              exact ⟨by rw [HD.out]; rfl, below_drewN (below_drewN (Below.refl _ _) _) _⟩
          · go_wp2
            go_ret
            refine ⟨?_, below_drewN (Below.refl _ _) _⟩
            have h1 := HTK.out
            rw [List.take_of_length_le (by omega), List.take_of_length_le (by have := HL.out; omega)] at h1
            rw [decide_eq_true h1]
            rfl
  · have hd : decide (xs = ys) = false := by
      simp only [decide_eq_false_iff_not]
      intro h
      exact hl (by rw [h])
    have hll : ((xs.length : Int) != (ys.length : Int)) = true := by simp; omega
    rw [hd]
    clear ha hb hl hd
    go_enter Tryd.func17, Tryd.ntmps17
    go_wp2
    go_ret
    exact ⟨rfl, Below.refl _ _⟩

theorem found_any {x : List Int × List Int} (hx : isCl x) (a b : Option Addr) (ca cb : Nat) (w : World) (ha : Has w .u8 a x.1.length x.1) (hb : Has w .u8 b x.2.length x.2) :
    Calls Tryd.prog 24 #[.agg #[.bool true, .slice a x.1.length ca, .slice b x.2.length cb]] w fun r w' => r = .returned (.bool true) ∧ Below w.heap.size w w' := by
  obtain ⟨h1, h2, h3, _, _⟩ := hx
  have := implIsClash_any true a b ca cb x.1 x.2 w ha hb (by omega) (by omega)
  rw [show isClashB true x.1 x.2 = true by unfold isClashB; simp [h2, h3, h1]] at this
  exact this

theorem fldQ0 (x : Int) (f : Bool) (a b : Option Addr) (n m c d : Nat) (w : World) : (Instr.field 31 (.agg #[.int .i64 x, .bool f, .slice a n c, .slice b m d]) 0).run Tryd.prog w = .ok (.int .i64 x) w := by kernel_rfl

end Go.Proofs.YtklhkhlmhddmcaaDoor
