/- Contracts: the model's draw for OpenSign. -/
import Derived.Test.YtncckpdglimdoaaDoorKyBt
namespace Go.Proofs.YtncckpdglimdoaaDoor
open Go.ChangeShapes Go.WideShapes Go.ChangeAt Go.RowKit
set_option maxRecDepth 100000
set_option linter.unusedVariables false
set_option linter.unusedSimpArgs false

theorem has_off {w : World} {k : IntKind} {a : Option Addr} {len V p : Nat} {zs : List Int} (h : Has w k a len zs) (hV : ∀ y, a = some y → V ≠ y.block) (u : Value) : Has (w.setCell ⟨V, p, none⟩ u) k a len zs := by
  refine ⟨h.1, h.2.1, h.2.2.imp id ?_⟩
  rintro ⟨b, off, rfl, hlt, hc⟩
  have := hV _ rfl
  exact ⟨b, off, rfl, by simpa using hlt, fun i hi => (World.cell?_of_block (w := w) (Below.heap_setCell w ⟨V, p, none⟩ u b (Ne.symm this))).trans (hc i hi)⟩

set_option maxHeartbeats 4000000 in
theorem drawOpenSign_any (w : World) (a : Option Addr) (len cap : Nat) (zs : List Int) (h : Has w .u8 a len zs) (hl : len ≤ 1048576) :
    Calls Tryd.prog 31 #[.slice a len cap] w fun e w' => ∃ (i : Int) (a1 : Option Addr) (c1 : Nat) (sh : List Int) (a2 : Option Addr) (c2 : Nat) (ot : List Int) (x : Int), e = .returned (.tuple #[.agg #[.int .i64 i, .slice a1 sh.length c1, .slice a2 ot.length c2], .int .i64 x]) ∧ sh.length ≤ 16 ∧ ot.length ≤ 16 ∧ Has w' .i64 a1 sh.length sh ∧ Has w' .i64 a2 ot.length ot ∧ Below w.heap.size w w' := by
  obtain ⟨V0, hV0⟩ : ∃ V0, V0 = w.heap.size := ⟨_, rfl⟩
  obtain ⟨E, hE⟩ : ∃ E, E = w.alloc (.cells #[.int .i64 0, .slice none 0 0, .slice none 0 0] 28) := ⟨_, rfl⟩
  have RE : Blk E V0 #[.int .i64 0, .slice none 0 0, .slice none 0 0] 28 := by rw [hE, hV0]; exact Blk.new _ _ _
  have B0 : Below w.heap.size w E := by rw [hE]; exact (Below.refl _ _).alloc (Nat.le_refl _) _
  have h' := h.below B0 (Nat.le_refl _)
  have vw : w.heap.size ≤ V0 := by omega
  clear h
  go_enter Tryd.func31, Tryd.ntmps31
  go_wp2_with fail
  simp only [← hV0, ← hE]
  clear hE hV0
  refine (source_any E a len cap zs h' hl).mono ?_
  rintro e u1 ⟨rfl, S1, hb1, hs1⟩
  have R1 := RE.below hb1 RE.lt
  have B1 := B0.trans (hb1.mono B0.size)
  have zE := RE.lt
  have z0 := B0.size
  obtain ⟨s0, hs0⟩ : ∃ s, s = E.heap.size := ⟨_, rfl⟩
  rw [← hs0] at S1 hs1 ⊢
  have hsE : s0 ≠ V0 := by omega
  have hsw : w.heap.size ≤ s0 := by omega
  have hz1 : V0 < u1.heap.size := R1.lt
  clear RE hb1 B0 h' hs0
  go_wp2_with fail
  refine (l8Bent_any _ _ _ a len cap zs 0 S1 (by omega)).mono ?_
  rintro e u2 ⟨i, a1, c1, sh, a2, c2, ot, x, t', rfl, l1, l2, b1, b2, H1, H2, _, _, Y2⟩
  have R2 := R1.fr (M := fun k => s0 = k) (.of_grown Y2.grown (fun k e => by simpa using e)) hsE
  have B2 : Below w.heap.size w u2 := B1.trans (Y2.below hsw B1.size)
  have r0 : u2.cell? ⟨V0, 0, none⟩ = some (.int .i64 0) := (R2.cell 0).trans rfl
  have r1 : u2.cell? ⟨V0, 1, none⟩ = some (.slice none 0 0) := (R2.cell 1).trans rfl
  have r2 : u2.cell? ⟨V0, 2, none⟩ = some (.slice none 0 0) := (R2.cell 2).trans rfl
  have e0 := R2.frozen 0
  have e1 := R2.frozen 1
  have e2 := R2.frozen 2
  have n1 : ∀ y, a1 = some y → V0 ≠ y.block := fun y hy => by have := b1 y hy; omega
  have n2 : ∀ y, a2 = some y → V0 ≠ y.block := fun y hy => by have := b2 y hy; omega
  have H1' : Hid (Has u2 .i64 a1 sh.length sh) := H1
  have H2' : Hid (Has u2 .i64 a2 ot.length ot) := H2
  have N1 : Hid (∀ y, a1 = some y → V0 ≠ y.block) := n1
  have N2 : Hid (∀ y, a2 = some y → V0 ≠ y.block) := n2
  clear R2 R1 S1 H1 H2 n1 n2 b1 b2 Y2 B1
  go_wp2
  refine bodyPost_ret (v := .tuple #[.agg #[.int .i64 i, .slice a1 sh.length c1, .slice a2 ot.length c2], .int .i64 x]) (by simp [results, Tryd.results31, go_sem, r0, r1, r2]) rfl ⟨i, a1, c1, sh, a2, c2, ot, x, rfl, l1, l2, ?_, ?_, ?_⟩
  · exact has_off (has_off (has_off H1'.out N1.out _) N1.out _) N1.out _
  · exact has_off (has_off (has_off H2'.out N2.out _) N2.out _) N2.out _
  · exact ((B2.setCell vw _).setCell vw _).setCell vw _

end Go.Proofs.YtncckpdglimdoaaDoor
