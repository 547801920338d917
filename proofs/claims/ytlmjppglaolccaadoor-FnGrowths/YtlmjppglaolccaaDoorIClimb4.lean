/- Contracts: the program's climbing of a path. -/
import Derived.Test.YtlmjppglaolccaaDoorClimb4S
import Derived.Test.YtlmjppglaolccaaDoorISums
namespace Go.Proofs.YtlmjppglaolccaaDoor
open Go.ChangeShapes Go.WideShapes Go.ChangeAt Go.RowKit
set_option linter.unusedVariables false
set_option linter.unusedSimpArgs false

theorem nodeV_nS {a b : Int} (h : (0 ≤ a ∧ a ≤ 65520) ∧ 0 ≤ b ∧ b ≤ 65520) : nodeV a b = nS a b := by unfold nodeV nS; rw [if_pos h]

theorem firstSide_any (a : Int) (w : World) (h : 0 ≤ a) : Calls Tryd.prog 74 #[.int .i64 a] w fun r w' => r = .returned (.bool (decide (a % 2 = 0))) ∧ w' = w := by
  go_enter Tryd.func74, Tryd.ntmps74
  go_wp2
  go_ret
  refine ⟨ret_bool ?_, rfl⟩
  rw [Bool.eq_iff_iff]
  simp

theorem aloneAt_any (a s : Int) (w : World) (h : 0 ≤ a) (hs : 1 ≤ s) (hs' : s ≤ 1000000) : Calls Tryd.prog 73 #[.int .i64 a, .int .i64 s] w fun r w' => r = .returned (.bool (alone a s)) ∧ w' = w := by
  by_cases he : a % 2 = 0
  · have hd : decide (a % 2 = 0) = true := by simpa using he
    go_enter Tryd.func73, Tryd.ntmps73
    go_wp2_with (go_at_call 74; refine (firstSide_any a _ h).mono ?_; rintro r u ⟨rfl, rfl⟩; rw [hd])
    go_ret
    refine ⟨ret_bool ?_, rfl⟩
    unfold alone
    rw [Bool.eq_iff_iff]
    simp
    omega
  · have hd : decide (a % 2 = 0) = false := by simpa using he
    have HE : Hid (¬ a % 2 = 0) := he
    clear he
    go_enter Tryd.func73, Tryd.ntmps73
    go_wp2_with (go_at_call 74; refine (firstSide_any a _ h).mono ?_; rintro r u ⟨rfl, rfl⟩; rw [hd])
    go_ret
    refine ⟨ret_bool ?_, rfl⟩
    unfold alone
    have := HE.out
    rw [Bool.eq_iff_iff]
    simp
    omega

/-- The first of a pair. -/
def prA (a own other : Int) : Int := if a % 2 = 0 then own else other
/-- The second of a pair. -/
def prB (a own other : Int) : Int := if a % 2 = 0 then other else own
theorem joinAt_pr (f : Int → Int → Int) (a own other : Int) : joinAt f a own other = f (prA a own other) (prB a own other) := by
  unfold joinAt prA prB; split <;> rfl

theorem fldR1 (x y : Int) (w : World) : (Instr.field 41 (.agg #[.int .i64 x, .int .i64 y]) 1).run Tryd.prog w = .ok (.int .i64 y) w := by kernel_rfl
/-- What a pair comes to. -/
def jn (a b : Int) (al : Bool) : Int := if al = true then a else nS a b
theorem joined_any (a b : Int) (al : Bool) (w : World) (hT : Tab w) (ha : 0 ≤ a ∧ a ≤ 65520) (hb : al = false → 0 ≤ b ∧ b ≤ 65520) :
    Calls Tryd.prog 66 #[.agg #[.int .i64 a, .int .i64 b, .bool al]] w fun r w' => r = .returned (.int .i64 (jn a b al)) ∧ Below w.heap.size w w' := by
  cases al
  · have hbb := hb rfl
    have HN : Hid (nodeV a b = jn a b false) := nodeV_nS ⟨ha, hbb⟩
    clear hb
    have F1 := fldR1
    go_enter Tryd.func66, Tryd.ntmps66
    go_wp2_with fail
    refine (implNodeSum_any a b _ (hT.alloc _)).mono ?_
    rintro r u1 ⟨rfl, hb1⟩
    rw [HN.out]
    go_wp2
    go_ret
    exact ⟨rfl, ((Below.refl _ _).alloc (Nat.le_refl _) _).trans (hb1.mono (by simp))⟩
  · go_enter Tryd.func66, Tryd.ntmps66
    go_wp2
    go_ret
    exact ⟨rfl, (Below.refl _ _).alloc (Nat.le_refl _) _⟩

/-- The code of a climb whose numbers are in their bounds. -/
def cpC (a s : Int) (q : List Int) : Int := if q.length = stN a s then 0 else 8
/-- What it comes to. -/
def cpV (r a s : Int) (q : List Int) : Int := if q.length = stN a s then clM nS r a s q else 0
theorem cp_alone {r a s : Int} {q : List Int} (h2 : 2 ≤ s) (h3 : s ≤ 32) (ha : 0 ≤ a) (hs : a < s) (hal : alone a s = true) : cpC (a / 2) ((s + 1) / 2) q = cpC a s q ∧ cpV r (a / 2) ((s + 1) / 2) q = cpV r a s q := by
  have e := stN_up _ a s (Nat.le_refl _) h2 h3 ha hs
  rw [hal, if_pos rfl, Nat.add_zero] at e
  unfold cpC cpV
  rw [e, clM_alone nS _ r a s q (Nat.le_refl _) h2 h3 ha hs hal]
  exact ⟨rfl, rfl⟩
theorem cp_pair {r a s p0 : Int} {q : List Int} (h2 : 2 ≤ s) (h3 : s ≤ 32) (ha : 0 ≤ a) (hs : a < s) (hal : alone a s = false) : cpC (a / 2) ((s + 1) / 2) q = cpC a s (p0 :: q) ∧ cpV (jn (prA a r p0) (prB a r p0) false) (a / 2) ((s + 1) / 2) q = cpV r a s (p0 :: q) := by
  have e := stN_up _ a s (Nat.le_refl _) h2 h3 ha hs
  rw [hal] at e
  simp at e
  have ej : jn (prA a r p0) (prB a r p0) false = joinAt nS a r p0 := by rw [joinAt_pr]; rfl
  unfold cpC cpV
  rw [e, ej]
  by_cases hq : q.length = stN (a / 2) ((s + 1) / 2)
  · have hq' : (p0 :: q).length = stN (a / 2) ((s + 1) / 2) + 1 := by simp [hq]
    rw [if_pos hq, if_pos hq, if_pos hq', if_pos hq', clM_pair nS _ r a s p0 q (Nat.le_refl _) h2 h3 ha hs hal hq]
    exact ⟨rfl, rfl⟩
  · have hq' : ¬ (p0 :: q).length = stN (a / 2) ((s + 1) / 2) + 1 := by simp [hq]
    rw [if_neg hq, if_neg hq, if_neg hq', if_neg hq']
    exact ⟨rfl, rfl⟩
theorem cp_nil {r a s : Int} (h2 : 2 ≤ s) (h3 : s ≤ 32) (ha : 0 ≤ a) (hs : a < s) (hal : alone a s = false) : cpC a s [] = 8 ∧ cpV r a s [] = 0 := by
  have e := stN_up _ a s (Nat.le_refl _) h2 h3 ha hs
  rw [hal] at e
  simp at e
  unfold cpC cpV
  rw [e, if_neg (by simp), if_neg (by simp)]
  exact ⟨rfl, rfl⟩
theorem cp_one {r a s : Int} {q : List Int} (h : s ≤ 1) : cpC a s q = (if q.length = 0 then 0 else 8) ∧ cpV r a s q = (if q.length = 0 then r else 0) := by
  unfold cpC cpV
  rw [stN_le a s h, clM_le nS r a s q h]
  exact ⟨rfl, rfl⟩
theorem jn_bd {a b : Int} {al : Bool} (ha : 0 ≤ a ∧ a ≤ 65520) : 0 ≤ jn a b al ∧ jn a b al ≤ 65520 := by
  unfold jn; split
  · exact ha
  · exact nS_bd _ _
theorem allS_cons {p : Int} {q : List Int} (h : allS (p :: q) = true) : (0 ≤ p ∧ p ≤ 65520) ∧ allS q = true := by
  unfold allS at *; simp at h; exact ⟨h.1, by simpa using h.2⟩
theorem Has.tail {w : World} {b o : Nat} {p : Int} {q : List Int} (h : Has w .i64 (some ⟨b, o, none⟩) (p :: q).length (p :: q)) : Has w .i64 (some ⟨b, o + 1, none⟩) q.length q := by
  refine ⟨rfl, fun x hx => h.2.1 x (List.mem_cons_of_mem _ hx), ?_⟩
  rcases h.2.2 with c | ⟨b', off', e, hlt, hc⟩
  · simp at c
  · simp at e
    obtain ⟨rfl, rfl⟩ := e
    refine .inr ⟨b, o + 1, rfl, hlt, fun j hj => ?_⟩
    have := hc (1 + j) (by simp; omega)
    rw [show o + 1 + j = o + (1 + j) by omega, this]
    simp [List.getD, show 1 + j = j + 1 by omega]

end Go.Proofs.YtlmjppglaolccaaDoor
