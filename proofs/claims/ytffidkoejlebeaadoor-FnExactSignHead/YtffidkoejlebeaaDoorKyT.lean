/- Contracts of the program's chapter 8: SecretOf, the fault of a signature, both numbers that open a bit. -/
import Derived.Test.YtffidkoejlebeaaDoorKyQ
import Derived.Test.YtffidkoejlebeaaDoorCOr
import Derived.Deep.RegionHeld3
import Derived.Deep.RegionWith
namespace Go.Proofs.YtffidkoejlebeaaDoor
open Go.ChangeShapes Go.WideShapes Go.ChangeAt Go.RowKit
set_option maxRecDepth 100000
set_option linter.unusedVariables false
set_option linter.unusedSimpArgs false

set_option maxHeartbeats 4000000 in
theorem opened_any (i d : Int) (n : Nat) (sb so ob oo ca cb : Nat) (sh ot : List Int) (w : World) (hT : Tab w) (hn : n < 16) (hd : d = 0 ∨ d = 1) (ls : sh.length = 16) (lo : ot.length = 16) (hs : Has w .i64 (some ⟨sb, so, none⟩) sh.length sh) (ho : Has w .i64 (some ⟨ob, oo, none⟩) ot.length ot) (as' : allS sh = true) :
    Calls Tryd.prog 114 #[.agg #[.int .i64 i, .slice (some ⟨sb, so, none⟩) sh.length ca, .slice (some ⟨ob, oo, none⟩) ot.length cb], .int .i64 n, .int .i64 d] w fun r w' => r = .returned (.agg #[.int .i64 (if d = 0 then opnV (sh.getD n 0) else ot.getD n 0), .int .i64 (if d = 0 then ot.getD n 0 else opnV (sh.getD n 0))]) ∧ Below w.heap.size w w' := by
  obtain ⟨E, hE⟩ : ∃ E, E = ((w.alloc (.cells #[.int .i64 i, .slice (some ⟨sb, so, none⟩) sh.length ca, .slice (some ⟨ob, oo, none⟩) ot.length cb] 46)).alloc (.cells #[.int .i64 0, .int .i64 0] 110)).alloc (.cells #[.int .i64 0, .int .i64 0] 110) := ⟨_, rfl⟩
  have zE : E.heap.size = w.heap.size + 3 := by rw [hE]; simp
  have B0 : Below w.heap.size w E := by rw [hE]; exact (((Below.refl _ _).alloc (Nat.le_refl _) _).alloc (by simp) _).alloc (by simp; omega) _
  have GE : Blk E w.heap.size #[.int .i64 i, .slice (some ⟨sb, so, none⟩) sh.length ca, .slice (some ⟨ob, oo, none⟩) ot.length cb] 46 := by rw [hE]; exact (Blk.new w _ _).below (((Below.refl _ _).alloc (Nat.le_refl _) _).alloc (by simp) _) (by simp)
  have RE : Blk E (w.heap.size + 1) #[.int .i64 0, .int .i64 0] 110 := by
    have := (Blk.new (w.alloc (.cells #[.int .i64 i, .slice (some ⟨sb, so, none⟩) sh.length ca, .slice (some ⟨ob, oo, none⟩) ot.length cb] 46)) #[.int .i64 0, .int .i64 0] 110).below ((Below.refl _ _).alloc (Nat.le_refl _) (.cells #[.int .i64 0, .int .i64 0] 110)) (by simp)
    rw [World.size_alloc] at this
    rw [hE]; exact this
  have PE : Blk E (w.heap.size + 2) #[.int .i64 0, .int .i64 0] 110 := by
    have := Blk.new ((w.alloc (.cells #[.int .i64 i, .slice (some ⟨sb, so, none⟩) sh.length ca, .slice (some ⟨ob, oo, none⟩) ot.length cb] 46)).alloc (.cells #[.int .i64 0, .int .i64 0] 110)) #[.int .i64 0, .int .i64 0] 110
    rw [World.size_alloc, World.size_alloc] at this
    rw [hE]; exact this
  have hsE := (hs.below B0 (Nat.le_refl _)).2.2
  have hoE := (ho.below B0 (Nat.le_refl _)).2.2
  have sc : E.cell? ⟨sb, so + n, none⟩ = some (.int .i64 (sh.getD n 0)) ∧ sb < w.heap.size := by
    rcases hsE with c | ⟨b, off, e, _, hc⟩
    · omega
    · simp at e
      obtain ⟨rfl, rfl⟩ := e
      refine ⟨hc n (by omega), ?_⟩
      rcases hs.2.2 with c | ⟨b', off', e', hb', _⟩
      · omega
      · simp at e'; rw [e'.1]; exact hb'
  have oc : E.cell? ⟨ob, oo + n, none⟩ = some (.int .i64 (ot.getD n 0)) ∧ ob < w.heap.size := by
    rcases hoE with c | ⟨b, off, e, _, hc⟩
    · omega
    · simp at e
      obtain ⟨rfl, rfl⟩ := e
      refine ⟨hc n (by omega), ?_⟩
      rcases ho.2.2 with c | ⟨b', off', e', hb', _⟩
      · omega
      · simp at e'; rw [e'.1]; exact hb'
  have hn' : (n : Int) < 16 := by omega
  have bd := getD_all as' n
  have PN := publicNumber_any (sh.getD n 0) E (hT.below B0 (Nat.le_refl _)) bd.1 (by omega)
  generalize opnV (sh.getD n 0) = y at *
  generalize sh.getD n 0 = x at *
  generalize ot.getD n 0 = z at *
  rw [ls, lo] at *
  have k1 : E.cell? ⟨w.heap.size, 1, none⟩ = some (.slice (some ⟨sb, so, none⟩) 16 ca) := (GE.cell 1).trans rfl
  have k2 : E.cell? ⟨w.heap.size, 2, none⟩ = some (.slice (some ⟨ob, oo, none⟩) 16 cb) := (GE.cell 2).trans rfl
  obtain ⟨sc1, sc2⟩ := sc
  obtain ⟨oc1, oc2⟩ := oc
  have OS0 : ∀ u : World, Calls Tryd.prog 79 #[.int .i64 0] u fun r w' => r = .returned (.int .i64 1) ∧ w' = u := fun u => otherSide_any 0 u (by decide) (by decide)
  have OS1 : ∀ u : World, Calls Tryd.prog 79 #[.int .i64 1] u fun r w' => r = .returned (.int .i64 0) ∧ w' = u := fun u => otherSide_any 1 u (by decide) (by decide)
  clear hsE hoE hs ho hT bd
  rcases hd with rfl | rfl
  · go_enter Tryd.func114, Tryd.ntmps114
    go_upto_region 2 with fail
    simp only [← hE]
    clear hE
    go_wp2_with fail
    refine PN.mono ?_
    rintro r u1 ⟨rfl, hb1⟩
    have B1 := B0.trans (hb1.mono B0.size)
    have z1 := hb1.size
    have G1 := GE.below hb1 GE.lt
    have R1 := RE.below hb1 RE.lt
    have P1 := PE.below hb1 PE.lt
    have q0 : u1.cell? ⟨w.heap.size + 2, 0, none⟩ = some (.int .i64 0) := (P1.cell 0).trans rfl
    have g0 := P1.frozen 0
    have P2 := P1.set 0 (.int .i64 y)
    obtain ⟨W, hW⟩ : ∃ W, W = u1.setCell ⟨w.heap.size + 2, 0, none⟩ (.int .i64 y) := ⟨_, rfl⟩
    rw [← hW] at P2
    have fW : Fr (fun k => k = w.heap.size + 2) u1 W := by rw [hW]; exact (Fr.refl _ _).setCell _ _ rfl
    have G2 := G1.fr fW (by omega)
    have R2 := R1.fr fW (by omega)
    have c2 : W.cell? ⟨w.heap.size, 2, none⟩ = some (.slice (some ⟨ob, oo, none⟩) 16 cb) := (G2.cell 2).trans rfl
    have c3 : W.cell? ⟨ob, oo + n, none⟩ = some (.int .i64 z) := (World.cell?_of_block (a := ⟨ob, oo + n, none⟩) (fW.block ob (by omega) (by omega))).trans ((hb1.cell (p := ⟨ob, oo + n, none⟩) (show ob < E.heap.size by omega)).trans oc1)
    have B2 : Below w.heap.size w W := by rw [hW]; exact B1.setCell (by show _ ≤ w.heap.size + 2; omega) _
    have P2h : Hid (Blk W (w.heap.size + 2) _ 110) := P2
    have R2h : Hid (Blk W (w.heap.size + 1) _ 110) := R2
    clear k1 k2 sc1 oc1 GE RE PE hb1 G1 R1 P1 G2 PN
    have p1 : W.cell? ⟨w.heap.size + 2, 1, none⟩ = some (.int .i64 0) := (P2.cell 1).trans rfl
    have h1 := P2.frozen 1
    have hgl : w.heap.size < W.heap.size := by have := B2.size; have := R2.lt; omega
    go_wp2_with fail
    simp only [← hW]
    clear hW q0 g0 P2 R2 fW
    go_region_held3 (fun wx => wx.cell? ⟨w.heap.size, 2, none⟩ = some (.slice (some ⟨ob, oo, none⟩) 16 cb) ∧ wx.cell? ⟨ob, oo + n, none⟩ = some (.int .i64 z)) ((simp_all [go_sem]; try omega)) (first | (go_at_call 79; refine (OS0 _).mono ?_; rintro _ u ⟨rfl, hu⟩; have hu2 := hu.symm; subst hu2; clear hu) | fail)
    obtain ⟨Z, hZ⟩ : ∃ Z, Z = (W.setCell ⟨w.heap.size + 1 + 1, 1, none⟩ (.int .i64 z)).drew := ⟨_, rfl⟩
    have f3 : Fr (fun k => k = w.heap.size + 2) W Z := by rw [hZ]; exact Fr.trans (M := fun k => k = w.heap.size + 2) (M' := fun _ => False) ((Fr.refl _ W).setCell ⟨w.heap.size + 2, 1, none⟩ (.int .i64 z) rfl) (.of_below ((Below.refl _ _).drew) (Nat.le_refl _)) (fun _ _ e => e.elim)
    have P3 : Blk Z (w.heap.size + 2) #[.int .i64 y, .int .i64 z] 110 := by
      have h := (P2h.out.set 1 (.int .i64 z)).below ((Below.refl _ _).drew) (P2h.out.set 1 (.int .i64 z)).lt
      rw [hZ]; exact h
    have R3 := R2h.out.fr f3 (by omega)
    have B3 : Below w.heap.size w Z := B2.trans (f3.below (B := w.heap.size) (fun k e => by omega) B2.size)
    simp only [← hZ]
    clear hZ p1 h1 c2 c3 P2h R2h f3
    have p0 : Z.cell? ⟨w.heap.size + 2, 0, none⟩ = some (.int .i64 y) := (P3.cell 0).trans rfl
    have p1 : Z.cell? ⟨w.heap.size + 2, 1, none⟩ = some (.int .i64 z) := (P3.cell 1).trans rfl
    have r0 : Z.cell? ⟨w.heap.size + 1, 0, none⟩ = some (.int .i64 0) := (R3.cell 0).trans rfl
    have r1 : Z.cell? ⟨w.heap.size + 1, 1, none⟩ = some (.int .i64 0) := (R3.cell 1).trans rfl
    have s0 := R3.frozen 0
    have s1 := R3.frozen 1
    clear P3 R3
    go_wp2
    refine bodyPost_ret (v := .agg #[.int .i64 y, .int .i64 z]) (by simp [results, Tryd.results114, go_sem, r0, r1]) rfl ⟨by simp, ?_⟩
    exact (B3.setCell (Nat.le_succ _) _).setCell (Nat.le_succ _) _
  · go_enter Tryd.func114, Tryd.ntmps114
    go_upto_region 2 with fail
    simp only [← hE]
    clear hE
    go_wp2_with fail
    refine PN.mono ?_
    rintro r u1 ⟨rfl, hb1⟩
    have B1 := B0.trans (hb1.mono B0.size)
    have z1 := hb1.size
    have G1 := GE.below hb1 GE.lt
    have R1 := RE.below hb1 RE.lt
    have P1 := PE.below hb1 PE.lt
    have q0 : u1.cell? ⟨w.heap.size + 2, 1, none⟩ = some (.int .i64 0) := (P1.cell 1).trans rfl
    have g0 := P1.frozen 1
    have P2 := P1.set 1 (.int .i64 y)
    obtain ⟨W, hW⟩ : ∃ W, W = u1.setCell ⟨w.heap.size + 2, 1, none⟩ (.int .i64 y) := ⟨_, rfl⟩
    rw [← hW] at P2
    have fW : Fr (fun k => k = w.heap.size + 2) u1 W := by rw [hW]; exact (Fr.refl _ _).setCell _ _ rfl
    have G2 := G1.fr fW (by omega)
    have R2 := R1.fr fW (by omega)
    have c2 : W.cell? ⟨w.heap.size, 2, none⟩ = some (.slice (some ⟨ob, oo, none⟩) 16 cb) := (G2.cell 2).trans rfl
    have c3 : W.cell? ⟨ob, oo + n, none⟩ = some (.int .i64 z) := (World.cell?_of_block (a := ⟨ob, oo + n, none⟩) (fW.block ob (by omega) (by omega))).trans ((hb1.cell (p := ⟨ob, oo + n, none⟩) (show ob < E.heap.size by omega)).trans oc1)
    have B2 : Below w.heap.size w W := by rw [hW]; exact B1.setCell (by show _ ≤ w.heap.size + 2; omega) _
    have P2h : Hid (Blk W (w.heap.size + 2) _ 110) := P2
    have R2h : Hid (Blk W (w.heap.size + 1) _ 110) := R2
    clear k1 k2 sc1 oc1 GE RE PE hb1 G1 R1 P1 G2 PN
    have p1 : W.cell? ⟨w.heap.size + 2, 0, none⟩ = some (.int .i64 0) := (P2.cell 0).trans rfl
    have h1 := P2.frozen 0
    have hgl : w.heap.size < W.heap.size := by have := B2.size; have := R2.lt; omega
    go_wp2_with fail
    simp only [← hW]
    clear hW q0 g0 P2 R2 fW
    go_region_held3 (fun wx => wx.cell? ⟨w.heap.size, 2, none⟩ = some (.slice (some ⟨ob, oo, none⟩) 16 cb) ∧ wx.cell? ⟨ob, oo + n, none⟩ = some (.int .i64 z)) ((simp_all [go_sem]; try omega)) (first | (go_at_call 79; refine (OS1 _).mono ?_; rintro _ u ⟨rfl, hu⟩; have hu2 := hu.symm; subst hu2; clear hu) | fail)
    obtain ⟨Z, hZ⟩ : ∃ Z, Z = (W.setCell ⟨w.heap.size + 1 + 1, 0, none⟩ (.int .i64 z)).drew := ⟨_, rfl⟩
    have f3 : Fr (fun k => k = w.heap.size + 2) W Z := by rw [hZ]; exact Fr.trans (M := fun k => k = w.heap.size + 2) (M' := fun _ => False) ((Fr.refl _ W).setCell ⟨w.heap.size + 2, 0, none⟩ (.int .i64 z) rfl) (.of_below ((Below.refl _ _).drew) (Nat.le_refl _)) (fun _ _ e => e.elim)
    have P3 : Blk Z (w.heap.size + 2) #[.int .i64 z, .int .i64 y] 110 := by
      have h := (P2h.out.set 0 (.int .i64 z)).below ((Below.refl _ _).drew) (P2h.out.set 0 (.int .i64 z)).lt
      rw [hZ]; exact h
    have R3 := R2h.out.fr f3 (by omega)
    have B3 : Below w.heap.size w Z := B2.trans (f3.below (B := w.heap.size) (fun k e => by omega) B2.size)
    simp only [← hZ]
    clear hZ p1 h1 c2 c3 P2h R2h f3
    have p0 : Z.cell? ⟨w.heap.size + 2, 0, none⟩ = some (.int .i64 z) := (P3.cell 0).trans rfl
    have p1 : Z.cell? ⟨w.heap.size + 2, 1, none⟩ = some (.int .i64 y) := (P3.cell 1).trans rfl
    have r0 : Z.cell? ⟨w.heap.size + 1, 0, none⟩ = some (.int .i64 0) := (R3.cell 0).trans rfl
    have r1 : Z.cell? ⟨w.heap.size + 1, 1, none⟩ = some (.int .i64 0) := (R3.cell 1).trans rfl
    have s0 := R3.frozen 0
    have s1 := R3.frozen 1
    clear P3 R3
    go_wp2
    refine bodyPost_ret (v := .agg #[.int .i64 z, .int .i64 y]) (by simp [results, Tryd.results114, go_sem, r0, r1]) rfl ⟨by simp, ?_⟩
    exact (B3.setCell (Nat.le_succ _) _).setCell (Nat.le_succ _) _

end Go.Proofs.YtffidkoejlebeaaDoor
