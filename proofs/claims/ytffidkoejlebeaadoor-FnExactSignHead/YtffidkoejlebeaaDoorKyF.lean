/- Contracts of the laws' own functions over results of signatures: marked, still there, held against each other. -/
import Derived.Test.YtffidkoejlebeaaDoorKyE
import Derived.Test.YtffidkoejlebeaaDoorFrB
import Derived.Test.YtffidkoejlebeaaDoorPath4S
import Derived.Test.YtffidkoejlebeaaDoorExc
namespace Go.Proofs.YtffidkoejlebeaaDoor
open Go.ChangeShapes Go.WideShapes Go.ChangeAt Go.RowKit
set_option maxRecDepth 100000
set_option linter.unusedVariables false
set_option linter.unusedSimpArgs false

/-- A signature result in memory of its own. -/
structure OwnG (w : World) (base : Nat) (a1 a2 : Option Addr) (c1 c2 : Nat) (xs ys : List Int) : Prop where
  one : w.ownsRow base 2 1 (.slice a1 xs.length c1) xs.length (xs.map (.int .i64))
  two : w.ownsRow base 2 1 (.slice a2 ys.length c2) ys.length (ys.map (.int .i64))
  apart : ∀ x y, a1 = some x → a2 = some y → x.block ≠ y.block
theorem OwnG.below {w w' : World} {base : Nat} {a1 a2 : Option Addr} {c1 c2 : Nat} {xs ys : List Int} (h : OwnG w base a1 a2 c1 c2 xs ys) (hb : Below w.heap.size w w') : OwnG w' base a1 a2 c1 c2 xs ys := ⟨own_below h.one hb, own_below h.two hb, h.apart⟩

set_option maxHeartbeats 1000000 in
theorem markSign_any (f : Int) (base : Nat) (a1 a2 : Option Addr) (c1 c2 : Nat) (xs ys : List Int) (k : Int) (w : World) (h : OwnG w base a1 a2 c1 c2 xs ys) (hbase : base ≤ w.heap.size) (hx : xs.length ≤ 1000) (hy : ys.length ≤ 1000) (k0 : 0 ≤ k) (k1 : k ≤ 1048576) :
    Calls Tryd.prog 84 #[.agg #[.int .i64 f, .slice a1 xs.length c1, .slice a2 ys.length c2], .int .i64 k] w fun r w' => r = .returned (.int .i64 (k + xs.length + ys.length)) ∧ OwnG w' base a1 a2 c1 c2 (markN k xs.length) (markN (k + xs.length) ys.length) ∧ Fr (fun b => (∃ x, a1 = some x ∧ b = x.block) ∨ ∃ x, a2 = some x ∧ b = x.block) w w' := by
  have lt1 : ∀ x, a1 = some x → x.block < w.heap.size := fun x e => by subst e; exact own_lt h.one x rfl
  have lt2 : ∀ x, a2 = some x → x.block < w.heap.size := fun x e => by subst e; exact own_lt h.two x rfl
  have H0 := h.below ((Below.refl w.heap.size w).alloc (Nat.le_refl _) (.cells #[.int .i64 f, .slice a1 xs.length c1, .slice a2 ys.length c2] 46))
  have HA : Hid (OwnG (w.alloc (.cells #[.int .i64 f, .slice a1 xs.length c1, .slice a2 ys.length c2] 46)) base a1 a2 c1 c2 xs ys) := H0
  have F0 : Fr (fun b => (∃ x, a1 = some x ∧ b = x.block) ∨ ∃ x, a2 = some x ∧ b = x.block) w (w.alloc (.cells #[.int .i64 f, .slice a1 xs.length c1, .slice a2 ys.length c2] 46)) := Fr.of_below ((Below.refl w.heap.size w).alloc (Nat.le_refl _) _) (Nat.le_refl _)
  have FH : Hid (Fr (fun b => (∃ x, a1 = some x ∧ b = x.block) ∨ ∃ x, a2 = some x ∧ b = x.block) w (w.alloc (.cells #[.int .i64 f, .slice a1 xs.length c1, .slice a2 ys.length c2] 46))) := F0
  have ap : Hid (∀ x y, a1 = some x → a2 = some y → x.block ≠ y.block) := h.apart
  clear h H0 F0
  go_enter Tryd.func84, Tryd.ntmps84
  go_wp2_with fail
  refine (markInt64S_any base a1 c1 k xs _ HA.out.one (by omega) k0 (by omega)).mono ?_
  rintro r u1 ⟨rfl, O1, m1⟩
  have s1 := m1.size
  simp at s1
  have T1 : Hid (u1.ownsRow base 2 1 (.slice a2 ys.length c2) ys.length (ys.map (.int .i64))) := own_blk HA.out.two (fun x e => m1.block _ (fun ad had => fun e2 => ap.out ad x had e e2.symm))
  have hbk : u1.heap[w.heap.size]? = (w.alloc (.cells #[.int .i64 f, .slice a1 xs.length c1, .slice a2 ys.length c2] 46)).heap[w.heap.size]? := m1.block _ (fun ad had => by have := lt1 ad had; omega)
  have c2' : u1.cell? ⟨w.heap.size, 2, none⟩ = some (.slice a2 ys.length c2) := by
    have hn := World.alloc_heap_new w (.cells #[.int .i64 f, .slice a1 xs.length c1, .slice a2 ys.length c2] 46)
    rw [hn] at hbk
    simp [World.cell?, hbk]
  have FR1 : Hid (Fr (fun b => (∃ x, a1 = some x ∧ b = x.block) ∨ ∃ x, a2 = some x ∧ b = x.block) w u1) := FH.out.marked m1 (fun ad had => .inl ⟨ad, had, rfl⟩)
  have O1' : Hid (u1.ownsRow base 2 1 (.slice a1 xs.length c1) xs.length ((markN k xs.length).map (.int .i64))) := O1
  clear O1 m1 hbk HA FH
  go_wp2_with fail
  refine (markInt64S_any base a2 c2 (k + xs.length) ys _ T1.out (by omega) (by omega) (by omega)).mono ?_
  rintro r u2 ⟨rfl, O2, m2⟩
  have F2 := FR1.out.marked m2 (fun ad had => .inr ⟨ad, had, rfl⟩)
  have P1 := own_blk O1'.out (w' := u2) (fun x e => m2.block _ (fun ad had => ap.out x ad e had))
  go_wp2
  go_ret
  refine ⟨rfl, ⟨?_, ?_, ap.out⟩, F2⟩
  · rw [markN_len]; exact P1
  · rw [markN_len]; exact O2

set_option maxHeartbeats 1000000 in
theorem heldSign_any (f : Int) (a1 a2 : Option Addr) (c1 c2 n1 n2 : Nat) (k : Int) (w : World) (h1 : Has w .i64 a1 (markN k n1).length (markN k n1)) (h2 : Has w .i64 a2 (markN (k + n1) n2).length (markN (k + n1) n2)) (hx : n1 ≤ 1000) (hy : n2 ≤ 1000) (k0 : 0 ≤ k) (k1 : k ≤ 1048576) :
    Calls Tryd.prog 86 #[.agg #[.int .i64 f, .slice a1 n1 c1, .slice a2 n2 c2], .int .i64 k] w fun r w' => r = .returned (.int .i64 (k + n1 + n2)) ∧ Below w.heap.size w w' := by
  have A := h1.alloc (.cells #[.int .i64 f, .slice a1 n1 c1, .slice a2 n2 c2] 46)
  have B := h2.alloc (.cells #[.int .i64 f, .slice a1 n1 c1, .slice a2 n2 c2] 46)
  have g1 : ¬ k + (n1 : Int) < 0 := by omega
  have g2 : ¬ k + (n1 : Int) + n2 < 0 := by omega
  go_enter Tryd.func86, Tryd.ntmps86
  go_wp2_with fail
  refine (heldInt64S_any a1 c1 k n1 _ A (by omega) k0 (by omega)).mono ?_
  rintro r u1 ⟨rfl, hb1⟩
  obtain ⟨hc1, hf1⟩ := bcell hb1
  have B1 := B.below hb1 (Nat.le_refl _)
  go_wp2_with fail
  refine (heldInt64S_any a2 c2 (k + n1) n2 _ B1 (by omega) (by omega) (by omega)).mono ?_
  rintro r u2 ⟨rfl, hb2⟩
  go_wp2
  go_ret
  exact ⟨rfl, (((Below.refl _ _).alloc (Nat.le_refl _) _).trans (hb1.mono (by simp))).trans (hb2.mono (by have := hb1.size; simp at this; omega))⟩

theorem OwnG.ex {lo hi : Nat} {w u : World} {base : Nat} {a1 a2 : Option Addr} {c1 c2 : Nat} {xs ys : List Int} (h : OwnG w base a1 a2 c1 c2 xs ys) (k : Ex lo hi w u) (hb : hi ≤ base) : OwnG u base a1 a2 c1 c2 xs ys := ⟨own_ex h.one k hb, own_ex h.two k hb, h.apart⟩
theorem OwnG.blocks {w : World} {base : Nat} {a1 a2 : Option Addr} {c1 c2 : Nat} {xs ys : List Int} (h : OwnG w base a1 a2 c1 c2 xs ys) : ∀ b, ((∃ x, a1 = some x ∧ b = x.block) ∨ ∃ x, a2 = some x ∧ b = x.block) → base ≤ b ∧ b < w.heap.size := by
  rintro b (⟨x, e, rfl⟩ | ⟨x, e, rfl⟩)
  · exact ⟨own_base h.one x e, own_lt h.one x e⟩
  · exact ⟨own_base h.two x e, own_lt h.two x e⟩

end Go.Proofs.YtffidkoejlebeaaDoor
