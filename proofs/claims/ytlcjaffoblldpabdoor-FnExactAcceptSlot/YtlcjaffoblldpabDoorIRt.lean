/- Contracts of the program's chapter 7: the root of a rise, the root of a map. -/
import Derived.Test.YtlcjaffoblldpabDoorINd
import Derived.Test.YtlcjaffoblldpabDoorIFind
import Derived.Test.YtlcjaffoblldpabDoorSlQ
namespace Go.Proofs.YtlcjaffoblldpabDoor
open Go.ChangeShapes Go.WideShapes Go.ChangeAt Go.RowKit
set_option linter.unusedVariables false
set_option linter.unusedSimpArgs false

theorem idxN5 (f : Nat → Int × Int) (w : World) : (Instr.index 93 (.agg #[Value.int .i64 (f 0).1, Value.int .i64 (f 0).2, Value.bool false, Value.int .i64 (f 1).1, Value.int .i64 (f 1).2, Value.bool false, Value.int .i64 (f 2).1, Value.int .i64 (f 2).2, Value.bool false, Value.int .i64 (f 3).1, Value.int .i64 (f 3).2, Value.bool false, Value.int .i64 (f 4).1, Value.int .i64 (f 4).2, Value.bool false, Value.int .i64 (f 5).1, Value.int .i64 (f 5).2, Value.bool false]) (.int .i64 5)).run Tryd.prog w = .ok (.agg #[.int .i64 (f 5).1, .int .i64 (f 5).2, .bool false]) w := by kernel_rfl

set_option maxRecDepth 100000 in
set_option maxHeartbeats 2000000 in
theorem root_any (key : Int) (la : Option Addr) (lc : Nat) (zs : List Int) (pb po pc : Nat) (p : List Int) (w : World) (hT : Tab w) (hk : 0 ≤ key ∧ key ≤ 63) (hlf : Has w .u8 la zs.length zs) (hl4 : zs.length ≤ 4) (hp : Has w .i64 (some ⟨pb, po, none⟩) 6 p) (hall : allS p = true) :
    Calls Tryd.prog 46 #[.agg #[.int .i64 key, .slice la zs.length lc, .slice (some ⟨pb, po, none⟩) 6 pc]] w fun r w' => r = .returned (.int .i64 (mpC key (sumL zs) p 6)) ∧ Below w.heap.size w w' := by
  obtain ⟨E, hE⟩ : ∃ E, E = w.alloc (.cells #[.int .i64 key, .slice la zs.length lc, .slice (some ⟨pb, po, none⟩) 6 pc] 61) := ⟨_, rfl⟩
  have EW : Below w.heap.size w E := by rw [hE]; exact (Below.refl _ _).alloc (Nat.le_refl _) _
  have ND := nodes_any key la lc zs pb po pc p E (hT.below EW (Nat.le_refl _)) hk (hlf.below EW (Nat.le_refl _)) hl4 (hp.below EW (Nat.le_refl _)) hall
  have HS : Hid (mpC key (sumL zs) p 6 = nS (ndQ key (sumL zs) p 5).1 (ndQ key (sumL zs) p 5).2) := ndQ_sum key (sumL zs) p 5
  obtain ⟨hb1, hb2⟩ := ndQ_bd key (sum_bd zs) hall 5
  have TH : Hid (∀ u : World, Below w.heap.size w u → Tab u) := fun u hu => hT.below hu (Nat.le_refl _)
  rw [nd_all] at ND
  generalize ndQ key (sumL zs) p = f at *
  have IX := idxN5 f
  clear hT hlf hp hall hk hl4
  go_enter Tryd.func46, Tryd.ntmps46
  go_wp2_with fail
  simp only [← hE]
  clear hE
  refine ND.mono ?_
  rintro r u1 ⟨rfl, h1⟩
  have B1 : Below w.heap.size w u1 := EW.trans (h1.mono EW.size)
  have T1 := TH.out _ B1
  clear h1 ND EW
  go_wp2_with fail
  refine (joined_any (f 5).1 (f 5).2 false _ T1 hb1 (fun _ => hb2)).mono ?_
  rintro r u2 ⟨rfl, h2⟩
  have B2 := B1.trans (h2.mono B1.size)
  clear h2 T1
  go_wp2
  go_ret
  exact ⟨by rw [HS.out]; rfl, B2⟩

theorem root_of (key : Int) (la : Option Addr) (lc : Nat) (zs : List Int) (pa : Option Addr) (pc : Nat) (p : List Int) (w : World) (hT : Tab w) (hk : 0 ≤ key ∧ key ≤ 63) (hlf : Has w .u8 la zs.length zs) (hl4 : zs.length ≤ 4) (hp : Has w .i64 pa p.length p) (h6 : p.length = 6) (hall : allS p = true) :
    Calls Tryd.prog 46 #[.agg #[.int .i64 key, .slice la zs.length lc, .slice pa p.length pc]] w fun r w' => r = .returned (.int .i64 (mpC key (sumL zs) p 6)) ∧ Below w.heap.size w w' := by
  rcases hp.2.2 with h0 | ⟨b, o, e, h, _⟩
  · omega
  · subst e
    rw [h6] at hp ⊢
    exact root_any key la lc zs b o pc p w hT hk hlf hl4 hp hall

end Go.Proofs.YtlcjaffoblldpabDoor
