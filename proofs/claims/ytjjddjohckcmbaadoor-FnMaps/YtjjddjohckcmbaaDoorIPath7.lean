/- Contract of the program's chapter 7: the path of a key. -/
import Derived.Test.YtjjddjohckcmbaaDoorIFind
import Derived.Test.YtjjddjohckcmbaaDoorINd
import Derived.Test.YtjjddjohckcmbaaDoorSlQ
namespace Go.Proofs.YtjjddjohckcmbaaDoor
open Go.ChangeShapes Go.WideShapes Go.ChangeAt Go.RowKit
set_option linter.unusedVariables false
set_option linter.unusedSimpArgs false

theorem fldRise2 (k : Int) (a1 a2 : Option Addr) (n1 c1 n2 c2 : Nat) (w : World) : (Instr.field 80 (.agg #[.int .i64 k, .slice a1 n1 c1, .slice a2 n2 c2]) 2).run Tryd.prog w = .ok (.slice a2 n2 c2) w := by kernel_rfl

set_option maxHeartbeats 2000000 in
theorem implMapPath_any (a : Option Addr) (c : Nat) (l : List Sl) (key : Int) (w : World) (hT : Tab w) (h : HasS w a l) (hl : l.length ≤ 1048576) :
    Calls Tryd.prog 12 #[.slice a l.length c, .int .i64 key] w fun r w' => ∃ a1 c1, r = .returned (.agg #[.int .i64 (mpF l key), .slice a1 (mpL l key).length c1]) ∧ OwnI w' w.heap.size (.slice a1 (mpL l key).length c1) (mpL l key) ∧ Below w.heap.size w w' := by
  obtain ⟨E, hE⟩ : ∃ E, E = w.alloc (.cells #[.int .i64 0, .slice none 0 0] 29) := ⟨_, rfl⟩
  have zE : E.heap.size = w.heap.size + 1 := by rw [hE]; simp
  have B0 : Below w.heap.size w E := by rw [hE]; exact (Below.refl _ _).alloc (Nat.le_refl _) _
  have h' : HasS E a l := by rw [hE]; exact h.alloc _
  have RE : Blk E w.heap.size #[.int .i64 0, .slice none 0 0] 29 := by rw [hE]; exact Blk.new _ _ _
  have F2 := fldRise2
  have SF : Hid (∀ u : World, HasS u a l → Calls Tryd.prog 20 #[.slice a l.length c] u fun r w' => r = .returned (.int .i64 (slF l)) ∧ Below u.heap.size u w') := fun u hu => implSlotsFault_any a c l u hu hl
  have TH : Hid (∀ u : World, Below w.heap.size w u → Tab u) := fun u hu => hT.below hu (Nat.le_refl _)
  have MK : Hid (∀ u : World, Calls Tryd.prog 50 #[.int .i64 key] u fun r w' => r = .returned (.bool (decide (0 ≤ key ∧ key ≤ 63))) ∧ Below u.heap.size u w') := fun u => (isMapKey_any key u).mono (fun r u2 h => ⟨h.1, by rw [h.2]; exact Below.refl _ _⟩)
  clear hT h
  by_cases hc : slF l = 0
  · obtain ⟨hl12, hall, hr⟩ := slF_zero hc
    by_cases hk : 0 ≤ key ∧ key ≤ 63
    · have HQ : Hid (mpF l key = 0 ∧ mpL l key = mpP l key) := by
        refine ⟨?_, ?_⟩
        · unfold mpF; rw [if_pos hc, if_pos hk]
        · unfold mpL; rw [if_pos ⟨hc, hk.1, hk.2⟩]
      have SM : Hid (∀ u : World, HasS u a l → Calls Tryd.prog 51 #[.slice a l.length c] u fun r w' => r = .returned (.map (some u.heap.size)) ∧ (∃ D, World.ownsMap w' Tryd.prog 2 (plainElem (H := Unit) Tryd.prog 2) u.heap.size 12 D ∧ MapD D (slFind l) l.length) ∧ Below u.heap.size u w' ∧ u.heap.size < w'.heap.size) := fun u hu => slotMapOf_any a c l u hu hl12 hr
      have RO : Hid (∀ (u : World) (D : DataW Unit) (b : Nat), Tab u → World.ownsMap u Tryd.prog 2 (plainElem (H := Unit) Tryd.prog 2) b 12 D → MapD D (slFind l) l.length → Calls Tryd.prog 52 #[.map (some b), .int .i64 key] u fun r w' => ∃ a1 c1 a2 c2, r = .returned (.agg #[.int .i64 key, .slice a1 (slLeaf l key).length c1, .slice a2 (mpP l key).length c2]) ∧ OwnB w' u.heap.size a1 c1 (slLeaf l key) ∧ OwnI w' u.heap.size (.slice a2 (mpP l key).length c2) (mpP l key) ∧ Below u.heap.size u w') := fun u D b ht ho hm => riseOf_any b 12 l.length D l key u ht ho hm hall hk
      have hkd : decide (0 ≤ key ∧ key ≤ 63) = true := by simpa using hk
      rw [hkd] at MK
      rw [hc] at SF
      clear hkd hall hr hl12 hc hk
      go_enter Tryd.func12, Tryd.ntmps12
      go_wp2_with fail
      simp only [← hE]
      clear hE
      refine (SF.out _ h').mono ?_
      rintro r u1 ⟨rfl, hb1⟩
      have z1 := hb1.size
      have h1 := h'.below hb1 (Nat.le_refl _)
      have R1 := RE.below hb1 (by omega)
      have B1 := B0.trans (hb1.mono (by omega))
      clear RE h' hb1
      go_wp2_with fail
      refine (MK.out _).mono ?_
      rintro r u2 ⟨rfl, hb2⟩
      have z2 := hb2.size
      have h2 := h1.below hb2 (Nat.le_refl _)
      have R2 := R1.below hb2 (by omega)
      have B2 := B1.trans (hb2.mono (by omega))
      clear R1 h1 hb2
      go_wp2_with fail
      refine (SM.out _ h2).mono ?_
      rintro r u3 ⟨rfl, ⟨D, hown, hmd⟩, hb3, z3⟩
      have R3 := R2.below hb3 (by omega)
      have B3 := B2.trans (hb3.mono (by omega))
      have RO3 := RO.out u3 D u2.heap.size (TH.out _ B3) hown hmd
      clear R2 h2 hb3 hown hmd RO SM
      go_wp2_with fail
      refine RO3.mono ?_
      rintro r u4 ⟨a1, c1, a2, c2, rfl, _, O4, hb4⟩
      have z4 := hb4.size
      have R4 := R3.below hb4 (by omega)
      have B4 := B3.trans (hb4.mono (by omega))
      have k0 : u4.cell? ⟨w.heap.size, 0, none⟩ = some (.int .i64 0) := (R4.cell 0).trans rfl
      have k1 : u4.cell? ⟨w.heap.size, 1, none⟩ = some (.slice none 0 0) := (R4.cell 1).trans rfl
      have f0 := R4.frozen 0
      have f1 := R4.frozen 1
      have OH : Hid (OwnI u4 u3.heap.size (.slice a2 (mpP l key).length c2) (mpP l key)) := O4
      clear R3 R4 hb4 O4 RO3
      go_wp2
      refine bodyPost_ret (v := .agg #[.int .i64 0, .slice a2 (mpP l key).length c2]) (by simp [results, Tryd.results12, go_sem, k0, k1]) rfl ⟨a2, c2, by rw [HQ.out.1, HQ.out.2], by rw [HQ.out.2]; exact own_mono (own_set (own_set OH.out (by omega) _) (by omega) _) (by omega), ?_⟩
      exact (B4.setCell (Nat.le_refl _) _).setCell (Nat.le_refl _) _
    · have HQ : Hid (mpF l key = 3 ∧ mpL l key = []) := by
        refine ⟨?_, ?_⟩
        · unfold mpF; rw [if_pos hc, if_neg hk]
        · unfold mpL; rw [if_neg (fun e => hk e.2)]
      have hkd : decide (0 ≤ key ∧ key ≤ 63) = false := by simpa using hk
      rw [hkd] at MK
      rw [hc] at SF
      clear hkd hall hr hl12 hc hk
      go_enter Tryd.func12, Tryd.ntmps12
      go_wp2_with fail
      simp only [← hE]
      clear hE
      refine (SF.out _ h').mono ?_
      rintro r u1 ⟨rfl, hb1⟩
      have z1 := hb1.size
      have R1 := RE.below hb1 (by omega)
      have B1 := B0.trans (hb1.mono (by omega))
      clear RE h' hb1
      go_wp2_with fail
      refine (MK.out _).mono ?_
      rintro r u2 ⟨rfl, hb2⟩
      have R2 := R1.below hb2 (by omega)
      have B2 := B1.trans (hb2.mono (by omega))
      have k0 : u2.cell? ⟨w.heap.size, 0, none⟩ = some (.int .i64 0) := (R2.cell 0).trans rfl
      have k1 : u2.cell? ⟨w.heap.size, 1, none⟩ = some (.slice none 0 0) := (R2.cell 1).trans rfl
      have f0 := R2.frozen 0
      have f1 := R2.frozen 1
      clear R1 R2 hb2
      go_wp2
      refine bodyPost_ret (v := .agg #[.int .i64 3, .slice none 0 0]) (by simp [results, Tryd.results12, go_sem, k0, k1]) rfl ⟨none, 0, by rw [HQ.out.1, HQ.out.2]; rfl, by rw [HQ.out.2]; exact nil_ownI _ _, ?_⟩
      exact (B2.setCell (Nat.le_refl _) _).setCell (Nat.le_refl _) _
  · have HQ : Hid (mpF l key = slF l ∧ mpL l key = []) := by
      refine ⟨?_, ?_⟩
      · unfold mpF; rw [if_neg hc]
      · unfold mpL; rw [if_neg (fun e => hc e.1)]
    have hc' : (slF l != 0) = true := by simpa using hc
    generalize slF l = cc at *
    go_enter Tryd.func12, Tryd.ntmps12
    go_wp2_with fail
    simp only [← hE]
    clear hE
    refine (SF.out _ h').mono ?_
    rintro r u1 ⟨rfl, hb1⟩
    have B1 := B0.trans (hb1.mono (by omega))
    have R1 := RE.below hb1 (by omega)
    have k0 : u1.cell? ⟨w.heap.size, 0, none⟩ = some (.int .i64 0) := (R1.cell 0).trans rfl
    have k1 : u1.cell? ⟨w.heap.size, 1, none⟩ = some (.slice none 0 0) := (R1.cell 1).trans rfl
    have f0 := R1.frozen 0
    have f1 := R1.frozen 1
    clear R1 RE hb1
    go_wp2
    refine bodyPost_ret (v := .agg #[.int .i64 cc, .slice none 0 0]) (by simp [results, Tryd.results12, go_sem, k0, k1]) rfl ⟨none, 0, by rw [HQ.out.1, HQ.out.2]; rfl, by rw [HQ.out.2]; exact nil_ownI _ _, ?_⟩
    exact (B1.setCell (Nat.le_refl _) _).setCell (Nat.le_refl _) _

end Go.Proofs.YtjjddjohckcmbaaDoor
