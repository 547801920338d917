/- Contracts: sources of draws: laid, and numbers of whatever bound. -/
import Derived.Test.YtlmjppglaolccaaDoorSrc
namespace Go.Proofs.YtlmjppglaolccaaDoor
open Go.ChangeShapes Go.WideShapes Go.ChangeAt Go.RowKit
set_option linter.unusedVariables false
set_option linter.unusedSimpArgs false

theorem source_any (w : World) (a : Option Addr) (len cap : Nat) (zs : List Int) (h : Has w .u8 a len zs) (hl : len ≤ 1048576) :
    Calls Tryd.prog 29 #[.slice a len cap] w fun e w' => e = .returned (.pointer (some ⟨w.heap.size, 0, none⟩)) ∧ SrcAt w' w.heap.size w.heap.size a len cap zs 0 ∧ Below w.heap.size w w' ∧ w.heap.size < w'.heap.size := by
  obtain ⟨h1, h2, h3⟩ := h
  go_enter Tryd.func29, Tryd.ntmps29
  go_wp2
  go_ret
  have hb : Below w.heap.size w (w.alloc (.cells #[.slice a len cap, .int .i64 0] 77)) := (Below.refl _ _).alloc (Nat.le_refl _) _
  refine ⟨rfl, ⟨by simp [go_sem], by simp [go_sem], by simp [go_sem], Nat.le_refl _, by simp, h1, hl, h2, h3.imp id fun ⟨b, off, ha, hlt, hc⟩ => ⟨b, off, ha, hlt, fun i hi => (hb.cell (p := ⟨b, off + i, none⟩) hlt).trans (hc i hi)⟩⟩, hb, by simp⟩

/-- What a source leaves behind, seen from ahead of it. -/
theorem after_source {w w1 w2 : World} (hb : Below w.heap.size w w1) (ho : Only w.heap.size w1 w2) : Below w.heap.size w w2 := hb.trans (ho.below (Nat.le_refl _) hb.size)

theorem Only.grown {s : Nat} {w w' : World} (h : Only s w w') : w.grownBy w' (some s) := ⟨h.os, h.tape, h.output, h.size, fun k hk hn => h.block k hk (fun e => hn (by rw [e]))⟩
theorem Only.then_below {s : Nat} {a b c : World} (h : Only s a b) (k : Below a.heap.size b c) : Only s a c :=
  ⟨k.os.trans h.os, k.tape.trans h.tape, k.output.trans h.output, Nat.le_trans h.size k.size, fun i hi hn => (k.block i hi).trans (h.block i hi hn)⟩
theorem SrcAt.below' {w w' : World} {B s : Nat} {a : Option Addr} {len cap : Nat} {zs : List Int} {t : Nat} {N : Nat} (h : SrcAt w B s a len cap zs t) (hb : Below N w w') (hN : s < N) : SrcAt w' B s a len cap zs t :=
  ⟨(hb.cell (p := ⟨s, 0, none⟩) hN).trans h.code, (hb.cell (p := ⟨s, 1, none⟩) hN).trans h.at', (hb.frozen (p := ⟨s, 1, none⟩) hN).trans h.free, h.base, Nat.lt_of_lt_of_le h.lt hb.size, h.len', h.small, h.wf,
    h.cells.imp id fun ⟨b, off, ha, hl, hc⟩ => ⟨b, off, ha, hl, fun i hi => (hb.cell (p := ⟨b, off + i, none⟩) (by have := h.base; show b < _; omega)).trans (hc i hi)⟩⟩
theorem own_only {w w' : World} {base e size n s : Nat} {v : Value} {xs : List Value} (h : w.ownsRow base e size v n xs) (ho : Only s w w') (hs : s < base) : w'.ownsRow base e size v n xs := by
  refine h.kept ho.grown ?_
  cases hv : v.ownBlock with
  | none => exact .inl rfl
  | some g => exact .inr (by have := h.lt g hv; intro e; simp at e; omega)
theorem one_new (w : World) (x : Value) (T : Nat) : ∀ (j : Nat) (u : Value), [x][j]? = some u → (w.alloc (.cells #[x] T)).cell? ((⟨w.heap.size, 0, none⟩ : Addr).add j) = some u := by
  intro j u hj
  match j, hj with
  | 0, hj => simp at hj; subst hj; simp [Addr.add]

set_option maxHeartbeats 4000000 in
theorem next_big (w : World) (B s : Nat) (a : Option Addr) (len cap : Nat) (zs : List Int) (t : Nat) (n : Int) (h : SrcAt w B s a len cap zs t) (ht : t ≤ 1000000) (hn : 200 < n) (hn2 : n ≤ 100000) :
    Calls Tryd.prog 31 #[.pointer (some ⟨s, 0, none⟩), .int .i64 n] w fun e w' => ∃ v, e = .returned (.int .i64 v) ∧ 0 ≤ v ∧ v < n ∧ SrcAt w' B s a len cap zs (t + 1) ∧ Only s w w' := by
  have hst := h.step (t + 1)
  have hcd := h.code
  have hat := h.at'
  have hfr := h.free
  have hcs := h.cells
  have hsm := h.small
  have hwf := h.wf
  have hll := h.len'
  have hbs := h.base
  have HH : Hid (SrcAt (w.setCell ⟨s, 1, none⟩ (.int .i64 ((t + 1 : Nat) : Int))) B s a len cap zs (t + 1)) := hst
  clear hst h
  rcases hcs with h0 | ⟨b, off, rfl, hb, hcell⟩
  · subst h0
    have h0' : (((0 : Nat) : Int) == 0) = true := rfl
    go_enter Tryd.func31, Tryd.ntmps31
    go_wp2
    go_ret
    exact ⟨_, rfl, Int.emod_nonneg _ (by omega), Int.emod_lt_of_pos _ (by omega), HH.out, (Only.refl _ _).store _⟩
  · by_cases h0 : len = 0
    · subst h0
      go_enter Tryd.func31, Tryd.ntmps31
      go_wp2
      go_ret
      exact ⟨_, rfl, Int.emod_nonneg _ (by omega), Int.emod_lt_of_pos _ (by omega), HH.out, (Only.refl _ _).store _⟩
    · have hy := hcell (t % len) (Nat.mod_lt _ (by omega))
      have hyb : 0 ≤ zs.getD (t % len) 0 ∧ zs.getD (t % len) 0 ≤ 255 := by
        have := range_u8 hwf (t % len)
        simpa [List.getD] using this
      generalize zs.getD (t % len) 0 = y at hy hyb
      have hr : (t : Int) % (len : Int) = ((t % len : Nat) : Int) := rfl
      have hq : (t : Int) / (len : Int) = ((t / len : Nat) : Int) := rfl
      have hr1 : t % len < len := Nat.mod_lt _ (by omega)
      have hq1 : t / len ≤ t := Nat.div_le_self _ _
      have hx := hcell ((t + 1) % len) (Nat.mod_lt _ (by omega))
      have hxb : 0 ≤ zs.getD ((t + 1) % len) 0 ∧ zs.getD ((t + 1) % len) 0 ≤ 255 := by
        have := range_u8 hwf ((t + 1) % len)
        simpa [List.getD] using this
      generalize zs.getD ((t + 1) % len) 0 = x at hx hxb
      have hp : ((t : Int) + 1) % (len : Int) = (((t + 1) % len : Nat) : Int) := rfl
      have hp1 : (t + 1) % len < len := Nat.mod_lt _ (by omega)
      generalize t % len = R at hr hy hr1
      generalize t / len = Q at hq hq1
      generalize (t + 1) % len = R2 at hp hx hp1
      have hne : b < s := by omega
      have hl0 : ((len : Int) == 0) = false := by simp; omega
      have hl1 : (1 : Int) ≤ (len : Int) := by omega
      clear hcell
      go_enter Tryd.func31, Tryd.ntmps31
      go_wp2
      go_quiet (fail)
      go_wp2
      go_quiet (fail)
      go_wp2
      go_ret
      exact ⟨_, rfl, Int.emod_nonneg _ (by omega), Int.emod_lt_of_pos _ (by omega), HH.out.drewN _, ((Only.refl _ _).store _).drewN _⟩

theorem next_wide (w : World) (B s : Nat) (a : Option Addr) (len cap : Nat) (zs : List Int) (t : Nat) (n : Int) (h : SrcAt w B s a len cap zs t) (ht : t ≤ 1000000) (hn : 1 ≤ n) (hn2 : n ≤ 100000) :
    Calls Tryd.prog 31 #[.pointer (some ⟨s, 0, none⟩), .int .i64 n] w fun e w' => ∃ v, e = .returned (.int .i64 v) ∧ 0 ≤ v ∧ v < n ∧ SrcAt w' B s a len cap zs (t + 1) ∧ Only s w w' := by
  by_cases hh : n ≤ 200
  · exact next_any w B s a len cap zs t n h ht hn hh
  · exact next_big w B s a len cap zs t n h ht (by omega) hn2

end Go.Proofs.YtlmjppglaolccaaDoor
