/- Plain facts: the least is one of them, and none is ahead of it. -/
import Derived.Test.YtinjppnnggeebaaBest
namespace Go.Proofs.Ytinjppnnggeebaa

/-- None of them, that is a number, stands better than the best. -/
theorem best_none (m : Bool) (l : List Int) (s : Option Int) : l.foldl (step m) s = none ↔ s = none ∧ ∀ x ∈ l, nanB x = true := by
  induction l generalizing s with
  | nil => simp
  | cons x l ih =>
    rw [List.foldl_cons, ih]
    by_cases h : nanB x = true
    · rw [step_nan h]; simp [h]
    · have h' : nanB x = false := by simpa using h
      constructor
      · rintro ⟨h1, _⟩
        cases s with
        | none => rw [step_none h'] at h1; cases h1
        | some b =>
          by_cases hb : better m x b = true
          · rw [step_yes h' hb] at h1; cases h1
          · rw [step_no h' (by simpa using hb)] at h1; cases h1
      · rintro ⟨_, h2⟩
        exact absurd (h2 x List.mem_cons_self) h
theorem best_code (ys : List Int) : bestCode true ys = bestCode false ys := by
  unfold bestCode
  have h1 := best_none true ys none
  have h2 := best_none false ys none
  have e : best true ys = none ↔ best false ys = none := by unfold best; rw [h1, h2]
  split
  · rfl
  · cases ht : best true ys <;> cases hf : best false ys <;> simp_all
/-- A key by which the best one is the least. -/
def key (m : Bool) (x : Int) : Int := if m then - place x else place x
theorem better_key (m : Bool) (x b : Int) : better m x b = decide (key m x < key m b) := by
  unfold better key aheadB; cases m <;> simp <;> omega
theorem best_least (m : Bool) (l : List Int) (s : Option Int) (b : Int) (h : l.foldl (step m) s = some b) : (∀ x ∈ l, nanB x = false → key m b ≤ key m x) ∧ (∀ c, s = some c → key m b ≤ key m c) ∧ ((∀ c, s = some c → nanB c = false) → nanB b = false) := by
  induction l generalizing s with
  | nil =>
    simp at h
    subst h
    refine ⟨by simp, ?_, ?_⟩
    · intro c hc; simp at hc; rw [hc]; omega
    · intro hc; exact hc b rfl
  | cons x l ih =>
    rw [List.foldl_cons] at h
    obtain ⟨i1, i2, i3⟩ := ih _ h
    by_cases hx : nanB x = true
    · rw [step_nan hx] at i2 i3
      refine ⟨?_, i2, i3⟩
      intro y hy hn
      simp at hy
      rcases hy with rfl | hy
      · rw [hx] at hn; cases hn
      · exact i1 y hy hn
    · have hx' : nanB x = false := by simpa using hx
      cases s with
      | none =>
        rw [step_none hx'] at i2 i3
        refine ⟨?_, by simp, fun _ => i3 (by intro c hc; simp at hc; rw [← hc]; exact hx')⟩
        intro y hy hn
        simp at hy
        rcases hy with rfl | hy
        · exact i2 _ rfl
        · exact i1 y hy hn
      | some c =>
        by_cases hb : better m x c = true
        · rw [step_yes hx' hb] at i2 i3
          rw [better_key] at hb
          simp at hb
          refine ⟨?_, ?_, fun _ => i3 (by intro c hc; simp at hc; rw [← hc]; exact hx')⟩
          · intro y hy hn
            simp at hy
            rcases hy with rfl | hy
            · exact i2 _ rfl
            · exact i1 y hy hn
          · intro d hd
            simp at hd
            have := i2 x rfl
            rw [← hd]; omega
        · have hb' : better m x c = false := by simpa using hb
          rw [step_no hx' hb'] at i2 i3
          rw [better_key] at hb'
          simp at hb'
          refine ⟨?_, i2, i3⟩
          intro y hy hn
          simp at hy
          rcases hy with rfl | hy
          · have := i2 c rfl
            omega
          · exact i1 y hy hn
theorem best_is {m : Bool} {ys : List Int} {b : Int} (h : best m ys = some b) : b ∈ ys ∧ nanB b = false ∧ ∀ x ∈ ys, nanB x = false → key m b ≤ key m x := by
  obtain ⟨h1, _, h3⟩ := best_least m ys none b h
  exact ⟨best_mem m ys b h, h3 (by simp), h1⟩
/-- All that the law asks, where there is a least one. -/
theorem leasts {ys : List Int} (h : bestCode false ys = 0) : bestCode true ys = 0 ∧ bestVal false ys ∈ ys ∧ bestVal true ys ∈ ys ∧ aheadB (bestVal true ys) (bestVal false ys) = false ∧ ∀ x ∈ ys, nanB x = false → aheadB x (bestVal false ys) = false ∧ aheadB (bestVal true ys) x = false := by
  have h2 := best_code ys
  rw [h] at h2
  have hl : ¬ 40 < ys.length := by intro c; unfold bestCode at h; rw [if_pos c] at h; cases h
  cases hb : best false ys with
  | none => unfold bestCode at h; rw [if_neg hl, hb] at h; cases h
  | some l =>
    cases hm : best true ys with
    | none => unfold bestCode at h2; rw [if_neg hl, hm] at h2; cases h2
    | some m =>
      have e1 : bestVal false ys = l := by unfold bestVal; rw [if_neg hl, hb]
      have e2 : bestVal true ys = m := by unfold bestVal; rw [if_neg hl, hm]
      obtain ⟨a1, a2, a3⟩ := best_is hb
      obtain ⟨c1, c2, c3⟩ := best_is hm
      rw [e1, e2]
      refine ⟨h2, a1, c1, ?_, ?_⟩
      · have := c3 l a1 a2
        unfold key at this
        simp at this
        unfold aheadB
        simp; omega
      · intro x hx hn
        have k1 := a3 x hx hn
        have k2 := c3 x hx hn
        unfold key at k1 k2
        simp at k1 k2
        unfold aheadB
        simp; omega
theorem code_cases (ys : List Int) : bestCode false ys = 0 ∨ bestCode false ys = 2 ∨ bestCode false ys = 4 := by
  unfold bestCode; split
  · simp
  · split <;> simp
theorem code_len {ys : List Int} (h : bestCode false ys = 0) : ys.length ≤ 40 := by
  by_cases c : 40 < ys.length
  · unfold bestCode at h; rw [if_pos c] at h; cases h
  · omega
/-- Whether l is among the first k. -/
def memB (ys : List Int) (l : Int) (k : Nat) : Bool := decide (l ∈ ys.take k)
theorem memB_succ (ys : List Int) (l : Int) (k : Nat) (h : k < ys.length) : memB ys l (k + 1) = (memB ys l k || ys[k] == l) := by
  unfold memB
  rw [List.take_succ_eq_append_getElem h, Bool.eq_iff_iff]
  simp only [List.mem_append, List.mem_singleton, decide_eq_true_eq, Bool.or_eq_true, beq_iff_eq]
  constructor
  · rintro (c | c)
    · exact .inl c
    · exact .inr c.symm
  · rintro (c | c)
    · exact .inl c
    · exact .inr c.symm
theorem memB_all (ys : List Int) (l : Int) (h : l ∈ ys) : memB ys l ys.length = true := by unfold memB; rw [List.take_length]; simpa using h

end Go.Proofs.Ytinjppnnggeebaa
