/- Contracts: lists of pieces measured, copied and held against each other by the laws. -/
import Derived.Test.YtnlipmfhilgipabPcs
import Derived.Test.YtnlipmfhilgipabKeep
import Derived.Test.YtnlipmfhilgipabMark
namespace Go.Proofs.Ytnlipmfhilgipab
open Go.ChangeShapes Go.WideShapes Go.ChangeAt Go.RowKit
set_option linter.unusedVariables false
set_option linter.unusedSimpArgs false

/-- How many bytes all pieces have. -/
def sumZ : List Pc → Nat
  | [] => 0
  | r :: rs => r.zs.length + sumZ rs
theorem sumZ_app (xs ys : List Pc) : sumZ (xs ++ ys) = sumZ xs + sumZ ys := by
  induction xs with
  | nil => simp [sumZ]
  | cons x xs ih => simp only [List.cons_append, sumZ, ih]; omega
theorem sumZ_succ {rs : List Pc} {k : Nat} (h : k < rs.length) : sumZ (rs.take (k + 1)) = sumZ (rs.take k) + rs[k].zs.length := by
  rw [List.take_succ_eq_append_getElem h, sumZ_app]
  rfl
theorem sumZ_le (rs : List Pc) (k : Nat) : sumZ (rs.take k) ≤ sumZ rs := by
  have h2 := sumZ_app (rs.take k) (rs.drop k)
  rw [List.take_append_drop] at h2
  omega
theorem sumZ_mem {rs : List Pc} {r : Pc} (h : r ∈ rs) : r.zs.length ≤ sumZ rs := by
  induction rs with
  | nil => cases h
  | cons x xs ih =>
    simp at h
    simp only [sumZ]
    rcases h with rfl | h
    · omega
    · have := ih h; omega
/-- What is left of a measure. -/
def szV (n : Int) (rs : List Pc) : Int := if n - rs.length - sumZ rs < 0 then -1 else n - rs.length - sumZ rs

set_option maxHeartbeats 1000000 in
theorem szByteSS_any (a : Option Addr) (c : Nat) (rs : List Pc) (n : Int) (w : World) (h : HasP w a rs) (hl : rs.length ≤ maxLen) (hn : 0 ≤ n) (hn2 : n ≤ 1048576) :
    Calls Try.prog 4 #[.slice a rs.length c, .int .i64 n] w fun r w' => r = .returned (.int .i64 (szV n rs)) ∧ Below w.heap.size w w' := by
  unfold maxLen at hl
  have HF : Hid (szV n rs = if n - rs.length - sumZ rs < 0 then -1 else n - rs.length - sumZ rs) := rfl
  generalize szV n rs = cc at *
  by_cases hbig : n - (rs.length : Int) < 0
  · go_enter Try.func4, Try.ntmps4
    go_wp2
    go_ret
    exact ⟨ret_int (by rw [HF.out, if_pos (by omega)]), Below.refl _ _⟩
  · have hbig' : 0 ≤ n - (rs.length : Int) := by omega
    rcases h.1 with h0 | ⟨b1, o1, rfl, hlt1, hc1⟩
    · obtain rfl : rs = [] := List.eq_nil_of_length_eq_zero h0
      simp only [List.length_nil] at *
      go_enter Try.func4, Try.ntmps4
      go_wp2
      refine wp_loop_rounds 1 ?_
      rw [rounds_succ]
      go_wp2
      go_ret
      refine ⟨ret_int ?_, Below.refl _ _⟩
      rw [HF.out]
      simp [sumZ] at *
      omega
    · go_enter Try.func4, Try.ntmps4
      go_wp2
      go_loopw [1, 5] (fun l i wr => ∃ k : Nat, k ≤ rs.length ∧ 0 ≤ n - (rs.length : Int) - sumZ (rs.take k) ∧ l = .int .i64 (n - rs.length - sumZ (rs.take k)) ∧ i = .int .i64 k ∧ wr = w) (fun _ i _ => rs.length - (intOf i).toNat)
      case atStart => exact ⟨0, Nat.zero_le _, by simpa [sumZ] using hbig', by simp [sumZ], rfl, rfl⟩
      case round =>
        obtain ⟨k, hk, hpos, rfl, rfl, hwr⟩ := hrel
        have hwr2 := hwr.symm
        subst hwr2
        clear hwr
        have hle := sumZ_le rs k
        by_cases hlt : k < rs.length
        · have hlt' : (k : Int) < (rs.length : Int) := by omega
          have e1 := hc1 k hlt
          have hrk := h.2 rs[k] (List.getElem_mem hlt)
          have hs := sumZ_succ hlt
          have hle2 := sumZ_le rs (k + 1)
          have hm2 := hrk.2
          unfold maxLen at hm2
          have SZ : Hid (∀ u : World, Calls Try.prog 9 #[.slice rs[k].ad rs[k].zs.length rs[k].cap, .int .i64 (n - rs.length - sumZ (rs.take k))] u fun r w' => r = .returned (.int .i64 (if n - rs.length - sumZ (rs.take (k + 1)) < 0 then -1 else n - rs.length - sumZ (rs.take (k + 1)))) ∧ w' = u) := by
            intro u
            have := szByteS_any rs[k].ad rs[k].zs.length rs[k].cap (n - rs.length - sumZ (rs.take k)) u (by omega) (by omega) (by omega)
            have e : n - (rs.length : Int) - sumZ (rs.take k) - (rs[k].zs.length : Int) = n - rs.length - sumZ (rs.take (k + 1)) := by rw [hs]; omega
            rw [e] at this
            exact this
          obtain ⟨S1, hS1⟩ : ∃ S, sumZ (rs.take (k + 1)) = S := ⟨_, rfl⟩
          rw [hS1] at SZ hs hle2
          have HS1 : Hid (sumZ (rs.take (k + 1)) = S1) := hS1
          clear hS1
          by_cases hneg : n - (rs.length : Int) - S1 < 0
          · rw [if_pos hneg] at SZ
            go_wp2_with (go_at_call 9; refine (SZ.out _).mono ?_; rintro r u ⟨rfl, rfl⟩)
            go_ret
            exact ⟨ret_int (by rw [HF.out, if_pos (by omega)]), Below.refl _ _⟩
          · rw [if_neg hneg] at SZ
            have hneg' : 0 ≤ n - (rs.length : Int) - S1 := by omega
            go_wp2_with (go_at_call 9; refine (SZ.out _).mono ?_; rintro r u ⟨rfl, rfl⟩)
            go_roundw
            case rel => exact ⟨k + 1, by omega, by rw [HS1.out]; omega, by rw [HS1.out]; congr 1; omega, by go_num, by first | rfl | trivial⟩
            case measure => simp [intOf]; omega
        · have hkk : k = rs.length := by omega
          have HK : Hid (sumZ (rs.take k) = sumZ rs) := by
            show _ = _
            rw [hkk, List.take_length]
          generalize sumZ (rs.take k) = S1 at *
          go_wp2
          go_ret
          refine ⟨ret_int ?_, Below.refl _ _⟩
          have := HK.out
          rw [HF.out, if_neg (by omega)]
          omega

theorem infoSS : (Try.prog.info? 29).map (fun i => (i.zero, i.size, i.bytes)) = some (some (.slice none 0 0), 1, 24) := by kernel_rfl
/-- The cells of a list of pieces, those that are there and nothing behind them. -/
def partR (rs : List Pc) (gs : List Nat) : List Value := List.zipWith (fun (g : Nat) (r : Pc) => Value.slice (some ⟨g, 0, none⟩) r.zs.length r.zs.length) gs rs ++ List.replicate (rs.length - gs.length) (.slice none 0 0)
theorem partR_len (rs : List Pc) (gs : List Nat) (h : gs.length ≤ rs.length) : (partR rs gs).length = rs.length := by unfold partR; simp; omega
theorem partR_zero (rs : List Pc) : (madeCells (Value.slice none 0 0).cells (rs.length * 1)).toList = partR rs [] := by
  unfold partR madeCells
  simp [Value.cells]
  rw [List.eq_replicate_iff]
  exact ⟨by simp, fun b hb => by simp [Nat.mod_one] at hb; exact hb.2.symm⟩
theorem partR_cell (rs : List Pc) (gs : List Nat) (h : gs.length < rs.length) : (partR rs gs)[gs.length]? = some (.slice none 0 0) := by
  unfold partR
  rw [List.getElem?_append_right (by simp; omega)]
  simp [List.getElem?_replicate]
  omega
theorem partR_set (rs : List Pc) (gs : List Nat) (g : Nat) (h : gs.length < rs.length) : (partR rs gs).set gs.length (.slice (some ⟨g, 0, none⟩) (rs[gs.length]).zs.length (rs[gs.length]).zs.length) = partR rs (gs ++ [g]) := by
  unfold partR
  have hl : (List.zipWith (fun (g : Nat) (r : Pc) => Value.slice (some ⟨g, 0, none⟩) r.zs.length r.zs.length) gs rs).length = gs.length := by simp; omega
  have hr : rs.length - gs.length = (rs.length - (gs.length + 1)) + 1 := by omega
  rw [List.set_append_right _ _ (by omega), hl, Nat.sub_self, hr, List.replicate_succ, List.set_cons_zero]
  have hz : List.zipWith (fun (g : Nat) (r : Pc) => Value.slice (some ⟨g, 0, none⟩) r.zs.length r.zs.length) (gs ++ [g]) rs = List.zipWith (fun (g : Nat) (r : Pc) => Value.slice (some ⟨g, 0, none⟩) r.zs.length r.zs.length) gs rs ++ [.slice (some ⟨g, 0, none⟩) (rs[gs.length]).zs.length (rs[gs.length]).zs.length] := by
    conv => lhs; rw [← List.take_append_drop gs.length rs]
    rw [List.zipWith_append (by simp; omega)]
    congr 1
    · conv => rhs; rw [← List.take_append_drop gs.length rs]
      rw [show gs = gs ++ [] by simp, List.zipWith_append (by simp; omega)]
      simp
    · rw [List.drop_eq_getElem_cons h]; rfl
  rw [hz, List.append_assoc, List.length_append]
  rfl
/-- A list of pieces in memory of its own: where its rows lie. -/
structure OwnP (w : World) (base g : Nat) (rs : List Pc) (gs : List Nat) : Prop where
  out : w.ownsRow base 29 1 (.slice (some ⟨g, 0, none⟩) rs.length rs.length) rs.length (partR rs gs)
  row : ∀ i (h : i < gs.length) (h2 : i < rs.length), w.ownsRow base 5 1 (.slice (some ⟨gs[i], 0, none⟩) (rs[i]).zs.length (rs[i]).zs.length) (rs[i]).zs.length ((rs[i]).zs.map (.int .u8))
  up : ∀ x ∈ gs, g < x
  ord : gs.Pairwise (· < ·)

end Go.Proofs.Ytnlipmfhilgipab
