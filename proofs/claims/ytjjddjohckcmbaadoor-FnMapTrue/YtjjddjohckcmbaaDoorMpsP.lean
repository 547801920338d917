/- Plain facts on maps: of each key it is shown what it has; a slot that is taken. -/
import Derived.Test.YtjjddjohckcmbaaDoorSlQ
import Derived.Test.YtjjddjohckcmbaaDoorSlG
import Derived.Test.YtjjddjohckcmbaaDoorSPut
namespace Go.Proofs.YtjjddjohckcmbaaDoor
open Go.ChangeShapes Go.WideShapes Go.ChangeAt Go.RowKit
set_option linter.unusedVariables false
set_option linter.unusedSimpArgs false

theorem mpF_zero {l : List Sl} {k : Int} (h : mpF l k = 0) : slF l = 0 ∧ (0 ≤ k ∧ k ≤ 63) := by
  unfold mpF at h
  split at h
  · split at h
    · exact ⟨‹_›, ‹_›⟩
    · omega
  · omega
theorem clF_ok {k v : Int} {t : Bool} {p : List Int} (hk : 0 ≤ k ∧ k ≤ 63) (hv : 0 ≤ v ∧ v ≤ 65520) (hn : t = false → v = 0) (h6 : p.length = 6) (hall : allS p = true) : clF k t v p = 0 := by
  unfold clF
  rw [if_neg, if_neg (by omega), if_pos hall]
  rintro (h | ⟨_, h⟩ | ⟨h1, h2⟩)
  · exact h hk
  · exact h hv
  · exact h2 (hn h1)
/-- Of each key it is shown what it has, or that it has nothing. -/
theorem maps_ok {l : List Sl} {k : Int} (h : mpF l k = 0) : decide (clF k (fdC l k == 0) (fdV l k) (mpL l k) = 0 ∧ clW k (fdC l k == 0) (fdV l k) (mpL l k) = mrV l) = true := by
  obtain ⟨h0, hk⟩ := mpF_zero h
  obtain ⟨_, hok, _⟩ := slF_zero h0
  have e1 : fdV l k = (slFind l k).getD 0 := by unfold fdV; rw [if_pos h0]
  have e2 : (fdC l k == 0) = (slFind l k).isSome := by
    unfold fdC
    rw [if_pos h0]
    cases slFind l k <;> rfl
  have e3 : mpL l k = mpP l k := by unfold mpL; rw [if_pos ⟨h0, hk⟩]
  have e4 : mrV l = mpN l 6 0 := by unfold mrV; rw [if_pos h0]
  rw [e1, e2, e3, e4]
  have hv := slFind_bd hok k
  have hc : clF k (slFind l k).isSome ((slFind l k).getD 0) (mpP l k) = 0 := clF_ok hk hv (fun hn => by
    cases e : slFind l k with
    | none => rfl
    | some v => rw [e] at hn; simp at hn) (mpP_len l k) (mpP_all l k)
  refine decide_eq_true ⟨hc, ?_⟩
  unfold clW
  rw [if_pos hc, ← slLeaf_lfB]
  exact mpC_root hk.1 hk.2
theorem mpL_six {l : List Sl} {k : Int} (h : mpF l k = 0) : (mpL l k).length = 6 := by
  obtain ⟨h0, hk⟩ := mpF_zero h
  unfold mpL
  rw [if_pos ⟨h0, hk⟩]
  exact mpP_len l k
/-- What was put is found. -/
theorem put_found {l : List Sl} {s : Sl} (h : puC l s = 0) : slF (puL l s) = 0 ∧ fdC (puL l s) s.1 = 0 ∧ fdV (puL l s) s.1 = s.2 := by
  have hh : slF l = 0 ∧ slOk s = true ∧ ¬ 12 < (slPut l s).length := by
    unfold puC at h
    split at h
    · split at h
      · split at h
        · omega
        · exact ⟨‹_›, ‹_›, ‹_›⟩
      · omega
    · omega
  obtain ⟨h0, h1, h2⟩ := hh
  obtain ⟨_, hok, hr⟩ := slF_zero h0
  have e : puL l s = slPut l s := by unfold puL; rw [if_pos ⟨h0, h1, h2⟩]
  rw [e]
  have hok2 : ∀ x ∈ slPut l s, slOk x = true := fun x hx => by
    rcases slPut_mem hr x hx with rfl | e
    · exact h1
    · exact hok x e
  have hz : slF (slPut l s) = 0 := slF_of (by omega) hok2 (slPut_rises hr)
  have hf : slFind (slPut l s) s.1 = some s.2 := by rw [slPut_find hr, if_pos rfl]
  refine ⟨hz, ?_, ?_⟩
  · unfold fdC; rw [if_pos hz, hf]; rfl
  · unfold fdV; rw [if_pos hz, hf]; rfl

theorem fldM0 (x y : Int) (w : World) : (Instr.field 34 (.agg #[.int .i64 x, .int .i64 y]) 0).run Tryd.prog w = .ok (.int .i64 x) w := by kernel_rfl

theorem fldM1 (x y : Int) (w : World) : (Instr.field 34 (.agg #[.int .i64 x, .int .i64 y]) 1).run Tryd.prog w = .ok (.int .i64 y) w := by kernel_rfl

theorem fldM2 (y : Int) (a : Option Addr) (n c : Nat) (w : World) : (Instr.field 29 (.agg #[.int .i64 y, .slice a n c]) 0).run Tryd.prog w = .ok (.int .i64 y) w := by kernel_rfl

theorem fldM3 (x : Int) (f : Bool) (a b : Option Addr) (n m c d : Nat) (w : World) : (Instr.field 47 (.agg #[.int .i64 x, .bool f, .slice a n c, .slice b m d]) 0).run Tryd.prog w = .ok (.int .i64 x) w := by kernel_rfl

theorem fldM4 (y : Int) (a : Option Addr) (n c : Nat) (w : World) : (Instr.field 54 (.agg #[.int .i64 y, .slice a n c]) 0).run Tryd.prog w = .ok (.int .i64 y) w := by kernel_rfl

theorem fdC_two {l : List Sl} {k : Int} (h : slF l = 0) : fdC l k = 0 ∨ fdC l k = 4 := by
  unfold fdC
  rw [if_pos h]
  split
  · exact .inl rfl
  · exact .inr rfl

end Go.Proofs.YtjjddjohckcmbaaDoor
