/- Contracts: the model reads a head. -/
import Derived.Test.YtffidkoejlebeaaGreatDoorHdP
namespace Go.Proofs.YtffidkoejlebeaaGreatDoor
open Go.ChangeShapes Go.WideShapes Go.ChangeAt Go.RowKit
set_option maxRecDepth 100000
set_option linter.unusedVariables false
set_option linter.unusedSimpArgs false

set_option maxHeartbeats 4000000 in
theorem specReadHead_any (a : Option Addr) (c : Nat) (d : List Int) (w : World) (h : Has w .u8 a d.length d) (hl : d.length ≤ 1048576) :
    Calls Tryz.prog 11 #[.slice a d.length c] w fun e w' => e = .returned (.agg #[.int .i64 (rdC9 d), .int .i64 (rdI d (rdZ9 d)), .int .i64 (rdI d (rdR d)), .int .i64 (rdI d (rdM7 d)), .int .i64 (rdI d (rdK d))]) ∧ Below w.heap.size w w' := by
  obtain ⟨E, hE⟩ : ∃ E, E = w.alloc (.cells #[.int .i64 0, .int .i64 0, .int .i64 0, .int .i64 0, .int .i64 0] 28) := ⟨_, rfl⟩
  have BE : Below w.heap.size w E := by rw [hE]; exact (Below.refl _ _).alloc (Nat.le_refl _) _
  have RE : Blk E w.heap.size #[.int .i64 0, .int .i64 0, .int .i64 0, .int .i64 0, .int .i64 0] 28 := by rw [hE]; exact Blk.new _ _ _
  have BD : Hid (∀ i, 0 ≤ d.getD i 0 ∧ d.getD i 0 ≤ 255) := fun i => by
    have := range_u8 h.2.1 i
    simpa [List.getD] using this
  have bad : rdB d = false → (rdC9 d = 5 ∧ ∀ v, rdI d v = 0) := fun e => by unfold rdC9 rdI; rw [e]; exact ⟨rfl, fun _ => rfl⟩
  have NO : Hid (rdB d = false → ∀ X : World, Blk X w.heap.size #[.int .i64 0, .int .i64 0, .int .i64 0, .int .i64 0, .int .i64 0] 28 → True) := fun _ _ _ => trivial
  by_cases l7 : d.length = 7
  case neg =>
    have e1 : ((d.length : Int) != 7) = true := by simp; omega
    have hb : rdB d = false := by unfold rdB; rw [decide_eq_false (by rintro ⟨q, _⟩; exact l7 q)]; rfl
    obtain ⟨b1, b2⟩ := bad hb
    rw [b1, b2, b2, b2, b2]
    have k0 : E.cell? ⟨w.heap.size, 0, none⟩ = some (.int .i64 0) := (RE.cell 0).trans rfl
    have k1 : E.cell? ⟨w.heap.size, 1, none⟩ = some (.int .i64 0) := (RE.cell 1).trans rfl
    have k2 : E.cell? ⟨w.heap.size, 2, none⟩ = some (.int .i64 0) := (RE.cell 2).trans rfl
    have k3 : E.cell? ⟨w.heap.size, 3, none⟩ = some (.int .i64 0) := (RE.cell 3).trans rfl
    have k4 : E.cell? ⟨w.heap.size, 4, none⟩ = some (.int .i64 0) := (RE.cell 4).trans rfl
    have f0 := RE.frozen 0
    have f1 := RE.frozen 1
    have f2 := RE.frozen 2
    have f3 := RE.frozen 3
    have f4 := RE.frozen 4
    have rl := RE.lt
    clear h bad NO BD hb b1 b2 l7 RE
    go_enter Tryz.func11, Tryz.ntmps11
    go_upto_region 1 with fail
    simp only [← hE]
    clear hE
    go_wp2
    refine bodyPost_ret (v := .agg #[.int .i64 (5), .int .i64 (0), .int .i64 (0), .int .i64 (0), .int .i64 (0)]) (by simp [results, Tryz.results11, go_sem, k0, k1, k2, k3, k4]) rfl ⟨rfl, ?_⟩
    exact ((((BE.setCell (Nat.le_refl _) _).setCell (Nat.le_refl _) _).setCell (Nat.le_refl _) _).setCell (Nat.le_refl _) _).setCell (Nat.le_refl _) _
  have e1 : ((d.length : Int) != 7) = false := by simp; omega
  obtain ⟨b, o, rfl, hbl, hc⟩ : ∃ b off, a = some ⟨b, off, none⟩ ∧ b < w.heap.size ∧ ∀ i, i < d.length → w.cell? ⟨b, off + i, none⟩ = some (.int .u8 (d.getD i 0)) := by
    rcases h.2.2 with h0 | h1
    · omega
    · exact h1
  have OLD : Hid (∀ u : World, Below w.heap.size w u → (u.cell? ⟨b, o, none⟩ = some (.int .u8 (d.getD 0 0)) ∧ u.cell? ⟨b, o + 1, none⟩ = some (.int .u8 (d.getD 1 0)) ∧ u.cell? ⟨b, o + 2, none⟩ = some (.int .u8 (d.getD 2 0)) ∧ u.cell? ⟨b, o + 3, none⟩ = some (.int .u8 (d.getD 3 0))) ∧ u.cell? ⟨b, o + 4, none⟩ = some (.int .u8 (d.getD 4 0)) ∧ u.cell? ⟨b, o + 5, none⟩ = some (.int .u8 (d.getD 5 0)) ∧ u.cell? ⟨b, o + 6, none⟩ = some (.int .u8 (d.getD 6 0))) := fun u hu => by
    have q : ∀ i, i < d.length → u.cell? ⟨b, o + i, none⟩ = some (.int .u8 (d.getD i 0)) := fun i hi => (hu.cell (p := ⟨b, o + i, none⟩) hbl).trans (hc i hi)
    exact ⟨⟨q 0 (by omega), q 1 (by omega), q 2 (by omega), q 3 (by omega)⟩, q 4 (by omega), q 5 (by omega), q 6 (by omega)⟩
  have d0 := BD.out 0
  have d1 := BD.out 1
  have d2 := BD.out 2
  have d3 := BD.out 3
  have d4 := BD.out 4
  have d5 := BD.out 5
  have d6 := BD.out 6
  have EB : rdB d = (decide (d.getD 0 0 = 5) && hdB (d.getD 1 0) (256 * d.getD 2 0 + d.getD 3 0) (256 * d.getD 4 0 + d.getD 5 0) (d.getD 6 0)) := by
    show (decide (d.length = 7 ∧ d.getD 0 0 = 5) && hdB _ _ _ _) = _
    congr 1
    by_cases q : d.getD 0 0 = 5 <;> simp [l7, q]
  have EQ : Hid (rdC9 d = (if rdB d = true then 0 else 5) ∧ ∀ v, rdI d v = if rdB d = true then v else 0) := ⟨rfl, fun _ => rfl⟩
  have EV : Hid (rdZ9 d = d.getD 1 0 ∧ rdR d = 256 * d.getD 2 0 + d.getD 3 0 ∧ rdM7 d = 256 * d.getD 4 0 + d.getD 5 0 ∧ rdK d = d.getD 6 0) := ⟨rfl, rfl, rfl, rfl⟩
  have ln : (d.length : Int) = 7 := by omega
  clear h hc bad NO BD
  generalize d.getD 0 0 = x0 at *
  generalize d.getD 1 0 = x1 at *
  generalize d.getD 2 0 = x2 at *
  generalize d.getD 3 0 = x3 at *
  generalize d.getD 4 0 = x4 at *
  generalize d.getD 5 0 = x5 at *
  generalize d.getD 6 0 = x6 at *
  rw [EQ.out.1, EQ.out.2, EQ.out.2, EQ.out.2, EQ.out.2, EV.out.1, EV.out.2.1, EV.out.2.2.1, EV.out.2.2.2]
  generalize rdB d = rb at *
  clear EQ EV
  rw [l7]
  clear l7 ln hl e1
  obtain ⟨⟨c0, _⟩, _⟩ := OLD.out E BE
  by_cases q0 : x0 = 5
  case neg =>
    have e2 : (x0 != 5) = true := by simpa using q0
    have hb : rb = false := by rw [EB, decide_eq_false q0]; rfl
    subst hb
    have k0 : E.cell? ⟨w.heap.size, 0, none⟩ = some (.int .i64 0) := (RE.cell 0).trans rfl
    have k1 : E.cell? ⟨w.heap.size, 1, none⟩ = some (.int .i64 0) := (RE.cell 1).trans rfl
    have k2 : E.cell? ⟨w.heap.size, 2, none⟩ = some (.int .i64 0) := (RE.cell 2).trans rfl
    have k3 : E.cell? ⟨w.heap.size, 3, none⟩ = some (.int .i64 0) := (RE.cell 3).trans rfl
    have k4 : E.cell? ⟨w.heap.size, 4, none⟩ = some (.int .i64 0) := (RE.cell 4).trans rfl
    have f0 := RE.frozen 0
    have f1 := RE.frozen 1
    have f2 := RE.frozen 2
    have f3 := RE.frozen 3
    have f4 := RE.frozen 4
    have rl := RE.lt
    clear EB q0 RE OLD
    go_enter Tryz.func11, Tryz.ntmps11
    go_upto_region 1 with fail
    simp only [← hE]
    clear hE
    go_wp2
    refine bodyPost_ret (v := .agg #[.int .i64 (5), .int .i64 (0), .int .i64 (0), .int .i64 (0), .int .i64 (0)]) (by simp [results, Tryz.results11, go_sem, k0, k1, k2, k3, k4]) rfl ⟨rfl, ?_⟩
    exact ((((BE.setCell (Nat.le_refl _) _).setCell (Nat.le_refl _) _).setCell (Nat.le_refl _) _).setCell (Nat.le_refl _) _).setCell (Nat.le_refl _) _
  subst q0
  have hb : rb = hdB x1 (256 * x2 + x3) (256 * x4 + x5) x6 := by rw [EB]; rfl
  clear EB d0
  have FB : Hid (hdF x1 (256 * x2 + x3) (256 * x4 + x5) x6 = if rb = true then 0 else 3) := by show _ = _; rw [hb]; rfl
  have LF : Hid (∀ (u : World) (V : Nat), Blk u V #[.int .i64 x1, .int .i64 (256 * x2 + x3), .int .i64 (256 * x4 + x5), .int .i64 x6] 26 → Calls Tryz.prog 45 #[.pointer (some ⟨V, 0, none⟩)] u fun e w' => e = .returned (.int .i64 (hdF x1 (256 * x2 + x3) (256 * x4 + x5) x6)) ∧ w' = u) := fun u V hB => l9Fault_any V _ _ _ _ u (HdAt.of_blk hB)
  generalize hdF x1 (256 * x2 + x3) (256 * x4 + x5) x6 = hf at *
  clear hb
  have v1 : IntKind.i64.wrap x1 = x1 := by rw [IntKind.wrap_i64]; omega
  have v2 : IntKind.i64.wrap x2 = x2 := by rw [IntKind.wrap_i64]; omega
  have v3 : IntKind.i64.wrap x3 = x3 := by rw [IntKind.wrap_i64]; omega
  have v4 : IntKind.i64.wrap x4 = x4 := by rw [IntKind.wrap_i64]; omega
  have v5 : IntKind.i64.wrap x5 = x5 := by rw [IntKind.wrap_i64]; omega
  have v6 : IntKind.i64.wrap x6 = x6 := by rw [IntKind.wrap_i64]; omega
  have w2 : IntKind.i64.wrap (256 * x2) = 256 * x2 := by rw [IntKind.wrap_i64]; omega
  have w3 : IntKind.i64.wrap (256 * x2 + x3) = 256 * x2 + x3 := by rw [IntKind.wrap_i64]; omega
  have w4 : IntKind.i64.wrap (256 * x4) = 256 * x4 := by rw [IntKind.wrap_i64]; omega
  have w5 : IntKind.i64.wrap (256 * x4 + x5) = 256 * x4 + x5 := by rw [IntKind.wrap_i64]; omega
  have REH : Hid (Blk E w.heap.size #[.int .i64 0, .int .i64 0, .int .i64 0, .int .i64 0, .int .i64 0] 28) := RE
  have rl := RE.lt
  clear RE
  go_enter Tryz.func11, Tryz.ntmps11
  go_upto_region 1 with fail
  simp only [← hE]
  clear hE
  go_upto_region 3 with fail
  clear c0
  refine wp_region_noPanic ?_
  refine wp_region_held_drew (S := fun u => Below E.heap.size E u) (by kernel_rfl) (Below.refl E.heap.size E).drew (fun hs => ?_)
  obtain ⟨XD, hXD⟩ := al_w hs
  rw [← hXD] at hs
  have nA := hs.size
  simp only [← hXD]
  clear hXD
  refine take_at (i := 0) (d := some 14) (v := ?mv1) rfl rfl (by kernel_rfl) (by kernel_rfl) (by kernel_rfl) (fun _ _ _ h => h) (Or.inl ⟨by rfl, ?my1⟩) hs ?mg1
  case my1 => (intro z hSz; (obtain ⟨⟨e0, e1, e2, e3⟩, e4, e5, e6⟩ := OLD.out _ (BE.trans (hSz.mono BE.size))); go_simp; (try with_reducible rfl))
  try simp only [Act.put, List.setIfInBounds_toArray, List.set_cons_zero, List.set_cons_succ]
  refine take_at (i := 1) (d := some 15) (v := ?mv2) rfl rfl (by kernel_rfl) (by kernel_rfl) (by kernel_rfl) (fun _ _ _ h => h) (Or.inl ⟨by rfl, ?my2⟩) hs ?mg2
  case my2 => (intro z hSz; (obtain ⟨⟨e0, e1, e2, e3⟩, e4, e5, e6⟩ := OLD.out _ (BE.trans (hSz.mono BE.size))); go_simp; (try with_reducible rfl))
  try simp only [Act.put, List.setIfInBounds_toArray, List.set_cons_zero, List.set_cons_succ]
  refine take_at (i := 2) (d := some 16) (v := ?mv3) rfl rfl (by kernel_rfl) (by kernel_rfl) (by kernel_rfl) (fun _ _ _ h => h) (Or.inl ⟨by rfl, ?my3⟩) hs ?mg3
  case my3 => (intro z hSz; (obtain ⟨⟨e0, e1, e2, e3⟩, e4, e5, e6⟩ := OLD.out _ (BE.trans (hSz.mono BE.size))); go_simp; (try with_reducible rfl))
  try simp only [Act.put, List.setIfInBounds_toArray, List.set_cons_zero, List.set_cons_succ]
  refine take_at (i := 3) (d := some 17) (v := ?mv4) rfl rfl (by kernel_rfl) (by kernel_rfl) (by kernel_rfl) (fun _ _ _ h => h) (Or.inl ⟨by rfl, ?my4⟩) hs ?mg4
  case my4 => (intro z hSz; (obtain ⟨⟨e0, e1, e2, e3⟩, e4, e5, e6⟩ := OLD.out _ (BE.trans (hSz.mono BE.size))); go_simp; (try with_reducible rfl))
  try simp only [Act.put, List.setIfInBounds_toArray, List.set_cons_zero, List.set_cons_succ]
  refine take_at (i := 4) (d := some 18) (v := ?mv5) rfl rfl (by kernel_rfl) (by kernel_rfl) (by kernel_rfl) (fun _ _ _ h => h) (Or.inl ⟨by rfl, ?my5⟩) hs ?mg5
  case my5 => (intro z hSz; (obtain ⟨⟨e0, e1, e2, e3⟩, e4, e5, e6⟩ := OLD.out _ (BE.trans (hSz.mono BE.size))); go_simp; (try with_reducible rfl))
  try simp only [Act.put, List.setIfInBounds_toArray, List.set_cons_zero, List.set_cons_succ]
  refine take_at (i := 5) (d := some 19) (v := ?mv6) rfl rfl (by kernel_rfl) (by kernel_rfl) (by kernel_rfl) (fun _ _ _ h => h) (Or.inl ⟨by rfl, ?my6⟩) hs ?mg6
  case my6 => (intro z hSz; (obtain ⟨⟨e0, e1, e2, e3⟩, e4, e5, e6⟩ := OLD.out _ (BE.trans (hSz.mono BE.size))); go_simp; (try with_reducible rfl))
  try simp only [Act.put, List.setIfInBounds_toArray, List.set_cons_zero, List.set_cons_succ]
  refine take_at (i := 6) (d := some 20) (v := ?mv7) rfl rfl (by kernel_rfl) (by kernel_rfl) (by kernel_rfl) (fun _ _ _ h => h) (Or.inl ⟨by rfl, ?my7⟩) hs ?mg7
  case my7 => (intro z hSz; (obtain ⟨⟨e0, e1, e2, e3⟩, e4, e5, e6⟩ := OLD.out _ (BE.trans (hSz.mono BE.size))); go_simp; (try with_reducible rfl))
  try simp only [Act.put, List.setIfInBounds_toArray, List.set_cons_zero, List.set_cons_succ]
  refine take_at (i := 7) (d := some 21) (v := ?mv8) rfl rfl (by kernel_rfl) (by kernel_rfl) (by kernel_rfl) (fun _ _ _ h => h) (Or.inl ⟨by rfl, ?my8⟩) hs ?mg8
  case my8 => (intro z hSz; (obtain ⟨⟨e0, e1, e2, e3⟩, e4, e5, e6⟩ := OLD.out _ (BE.trans (hSz.mono BE.size))); go_simp; (try with_reducible rfl))
  try simp only [Act.put, List.setIfInBounds_toArray, List.set_cons_zero, List.set_cons_succ]
  refine take_at (i := 8) (d := some 22) (v := ?mv9) rfl rfl (by kernel_rfl) (by kernel_rfl) (by kernel_rfl) (fun _ _ _ h => h) (Or.inl ⟨by rfl, ?my9⟩) hs ?mg9
  case my9 => (intro z hSz; (obtain ⟨⟨e0, e1, e2, e3⟩, e4, e5, e6⟩ := OLD.out _ (BE.trans (hSz.mono BE.size))); go_simp; (try with_reducible rfl))
  try simp only [Act.put, List.setIfInBounds_toArray, List.set_cons_zero, List.set_cons_succ]
  refine take_at (i := 9) (d := some 23) (v := ?mv10) rfl rfl (by kernel_rfl) (by kernel_rfl) (by kernel_rfl) (fun _ _ _ h => h) (Or.inl ⟨by rfl, ?my10⟩) hs ?mg10
  case my10 => (intro z hSz; (obtain ⟨⟨e0, e1, e2, e3⟩, e4, e5, e6⟩ := OLD.out _ (BE.trans (hSz.mono BE.size))); go_simp; (try with_reducible rfl))
  try simp only [Act.put, List.setIfInBounds_toArray, List.set_cons_zero, List.set_cons_succ]
  refine take_at (i := 10) (d := some 24) (v := ?mv11) rfl rfl (by kernel_rfl) (by kernel_rfl) (by kernel_rfl) (fun _ _ _ h => h) (Or.inl ⟨by rfl, ?my11⟩) hs ?mg11
  case my11 => (intro z hSz; (obtain ⟨⟨e0, e1, e2, e3⟩, e4, e5, e6⟩ := OLD.out _ (BE.trans (hSz.mono BE.size))); go_simp; (try with_reducible rfl))
  try simp only [Act.put, List.setIfInBounds_toArray, List.set_cons_zero, List.set_cons_succ]
  refine take_at (i := 11) (d := some 25) (v := ?mv12) rfl rfl (by kernel_rfl) (by kernel_rfl) (by kernel_rfl) (fun _ _ _ h => h) (Or.inl ⟨by rfl, ?my12⟩) hs ?mg12
  case my12 => (intro z hSz; (obtain ⟨⟨e0, e1, e2, e3⟩, e4, e5, e6⟩ := OLD.out _ (BE.trans (hSz.mono BE.size))); go_simp; (try with_reducible rfl))
  try simp only [Act.put, List.setIfInBounds_toArray, List.set_cons_zero, List.set_cons_succ]
  refine take_at (i := 12) (d := some 26) (v := ?mv13) rfl rfl (by kernel_rfl) (by kernel_rfl) (by kernel_rfl) (fun _ _ _ h => h) (Or.inl ⟨by rfl, ?my13⟩) hs ?mg13
  case my13 => (intro z hSz; (obtain ⟨⟨e0, e1, e2, e3⟩, e4, e5, e6⟩ := OLD.out _ (BE.trans (hSz.mono BE.size))); go_simp; (try with_reducible rfl))
  try simp only [Act.put, List.setIfInBounds_toArray, List.set_cons_zero, List.set_cons_succ]
  refine take_at (i := 13) (d := some 27) (v := ?mv14) rfl rfl (by kernel_rfl) (by kernel_rfl) (by kernel_rfl) (fun _ _ _ h => h) (Or.inl ⟨by rfl, ?my14⟩) hs ?mg14
  case my14 => (intro z hSz; (obtain ⟨⟨e0, e1, e2, e3⟩, e4, e5, e6⟩ := OLD.out _ (BE.trans (hSz.mono BE.size))); go_simp; (try with_reducible rfl))
  try simp only [Act.put, List.setIfInBounds_toArray, List.set_cons_zero, List.set_cons_succ]
  refine take_at (i := 14) (d := some 28) (v := ?mv15) rfl rfl (by kernel_rfl) (by kernel_rfl) (by kernel_rfl) (fun _ _ _ h => h) (Or.inl ⟨by rfl, ?my15⟩) hs ?mg15
  case my15 => (intro z hSz; (obtain ⟨⟨e0, e1, e2, e3⟩, e4, e5, e6⟩ := OLD.out _ (BE.trans (hSz.mono BE.size))); go_simp; (try with_reducible rfl))
  try simp only [Act.put, List.setIfInBounds_toArray, List.set_cons_zero, List.set_cons_succ]
  refine take_at (i := 15) (d := some 29) (v := ?mv16) rfl rfl (by kernel_rfl) (by kernel_rfl) (by kernel_rfl) (fun _ _ _ h => h) (Or.inl ⟨by rfl, ?my16⟩) hs ?mg16
  case my16 => (intro z hSz; (obtain ⟨⟨e0, e1, e2, e3⟩, e4, e5, e6⟩ := OLD.out _ (BE.trans (hSz.mono BE.size))); go_simp; (try with_reducible rfl))
  try simp only [Act.put, List.setIfInBounds_toArray, List.set_cons_zero, List.set_cons_succ]
  refine take_at (i := 16) (d := some 30) (v := ?mv17) rfl rfl (by kernel_rfl) (by kernel_rfl) (by kernel_rfl) (fun _ _ _ h => h) (Or.inl ⟨by rfl, ?my17⟩) hs ?mg17
  case my17 => (intro z hSz; (obtain ⟨⟨e0, e1, e2, e3⟩, e4, e5, e6⟩ := OLD.out _ (BE.trans (hSz.mono BE.size))); go_simp; (try with_reducible rfl))
  try simp only [Act.put, List.setIfInBounds_toArray, List.set_cons_zero, List.set_cons_succ]
  refine take_at (i := 17) (d := some 31) (v := ?mv18) rfl rfl (by kernel_rfl) (by kernel_rfl) (by kernel_rfl) (fun _ _ _ h => h) (Or.inl ⟨by rfl, ?my18⟩) hs ?mg18
  case my18 => (intro z hSz; (obtain ⟨⟨e0, e1, e2, e3⟩, e4, e5, e6⟩ := OLD.out _ (BE.trans (hSz.mono BE.size))); go_simp; (try with_reducible rfl))
  try simp only [Act.put, List.setIfInBounds_toArray, List.set_cons_zero, List.set_cons_succ]
  refine take_at (i := 18) (d := some 32) (v := ?mv19) rfl rfl (by kernel_rfl) (by kernel_rfl) (by kernel_rfl) (fun _ _ _ h => h) (Or.inl ⟨by rfl, ?my19⟩) hs ?mg19
  case my19 => (intro z hSz; (obtain ⟨⟨e0, e1, e2, e3⟩, e4, e5, e6⟩ := OLD.out _ (BE.trans (hSz.mono BE.size))); go_simp; (try with_reducible rfl))
  try simp only [Act.put, List.setIfInBounds_toArray, List.set_cons_zero, List.set_cons_succ]
  refine take_at (i := 19) (d := some 33) (v := ?mv20) rfl rfl (by kernel_rfl) (by kernel_rfl) (by kernel_rfl) (fun _ _ _ h => h) (Or.inl ⟨by rfl, ?my20⟩) hs ?mg20
  case my20 => (intro z hSz; (obtain ⟨⟨e0, e1, e2, e3⟩, e4, e5, e6⟩ := OLD.out _ (BE.trans (hSz.mono BE.size))); go_simp; (try with_reducible rfl))
  try simp only [Act.put, List.setIfInBounds_toArray, List.set_cons_zero, List.set_cons_succ]
  refine take_at (i := 20) (d := some 34) (v := ?mv21) rfl rfl (by kernel_rfl) (by kernel_rfl) (by kernel_rfl) (fun _ _ _ h => h) (Or.inl ⟨by rfl, ?my21⟩) hs ?mg21
  case my21 => (intro z hSz; (obtain ⟨⟨e0, e1, e2, e3⟩, e4, e5, e6⟩ := OLD.out _ (BE.trans (hSz.mono BE.size))); go_simp; (try with_reducible rfl))
  try simp only [Act.put, List.setIfInBounds_toArray, List.set_cons_zero, List.set_cons_succ]
  refine take_at (i := 21) (d := some 35) (v := ?mv22) rfl rfl (by kernel_rfl) (by kernel_rfl) (by kernel_rfl) (fun _ _ _ h => h) (Or.inl ⟨by rfl, ?my22⟩) hs ?mg22
  case my22 => (intro z hSz; (obtain ⟨⟨e0, e1, e2, e3⟩, e4, e5, e6⟩ := OLD.out _ (BE.trans (hSz.mono BE.size))); go_simp; (try with_reducible rfl))
  try simp only [Act.put, List.setIfInBounds_toArray, List.set_cons_zero, List.set_cons_succ]
  refine take_at (i := 22) (d := some 36) (v := ?mv23) rfl rfl (by kernel_rfl) (by kernel_rfl) (by kernel_rfl) (fun _ _ _ h => h) (Or.inl ⟨by rfl, ?my23⟩) hs ?mg23
  case my23 => (intro z hSz; (obtain ⟨⟨e0, e1, e2, e3⟩, e4, e5, e6⟩ := OLD.out _ (BE.trans (hSz.mono BE.size))); go_simp; (try with_reducible rfl))
  try simp only [Act.put, List.setIfInBounds_toArray, List.set_cons_zero, List.set_cons_succ]
  refine take_at (i := 23) (d := some 37) (v := ?mv24) rfl rfl (by kernel_rfl) (by kernel_rfl) (by kernel_rfl) (fun _ _ _ h => h) (Or.inl ⟨by rfl, ?my24⟩) hs ?mg24
  case my24 => (intro z hSz; (obtain ⟨⟨e0, e1, e2, e3⟩, e4, e5, e6⟩ := OLD.out _ (BE.trans (hSz.mono BE.size))); go_simp; (try with_reducible rfl))
  try simp only [Act.put, List.setIfInBounds_toArray, List.set_cons_zero, List.set_cons_succ]
  refine take_at (i := 24) (d := some 38) (v := ?mv25) rfl rfl (by kernel_rfl) (by kernel_rfl) (by kernel_rfl) (fun _ _ _ h => h) (Or.inl ⟨by rfl, ?my25⟩) hs ?mg25
  case my25 => (intro z hSz; (obtain ⟨⟨e0, e1, e2, e3⟩, e4, e5, e6⟩ := OLD.out _ (BE.trans (hSz.mono BE.size))); go_simp; (try with_reducible rfl))
  try simp only [Act.put, List.setIfInBounds_toArray, List.set_cons_zero, List.set_cons_succ]
  refine take_at (i := 25) (d := some 39) (v := ?mv26) rfl rfl (by kernel_rfl) (by kernel_rfl) (by kernel_rfl) (fun _ _ _ h => h) (Or.inl ⟨by rfl, ?my26⟩) hs ?mg26
  case my26 => (intro z hSz; (obtain ⟨⟨e0, e1, e2, e3⟩, e4, e5, e6⟩ := OLD.out _ (BE.trans (hSz.mono BE.size))); go_simp; (try with_reducible rfl))
  try simp only [Act.put, List.setIfInBounds_toArray, List.set_cons_zero, List.set_cons_succ]
  refine take_at (i := 26) (d := some 40) (v := ?mv27) rfl rfl (by kernel_rfl) (by kernel_rfl) (by kernel_rfl) (fun _ _ _ h => h) (Or.inl ⟨by rfl, ?my27⟩) hs ?mg27
  case my27 => (intro z hSz; (obtain ⟨⟨e0, e1, e2, e3⟩, e4, e5, e6⟩ := OLD.out _ (BE.trans (hSz.mono BE.size))); go_simp; (try with_reducible rfl))
  try simp only [Act.put, List.setIfInBounds_toArray, List.set_cons_zero, List.set_cons_succ]
  refine take_at (i := 27) (d := some 41) (v := ?mv28) rfl rfl (by kernel_rfl) (by kernel_rfl) (by kernel_rfl) (fun _ _ _ h => h) (Or.inl ⟨by rfl, ?my28⟩) hs ?mg28
  case my28 => (intro z hSz; (obtain ⟨⟨e0, e1, e2, e3⟩, e4, e5, e6⟩ := OLD.out _ (BE.trans (hSz.mono BE.size))); go_simp; (try with_reducible rfl))
  try simp only [Act.put, List.setIfInBounds_toArray, List.set_cons_zero, List.set_cons_succ]
  refine take_at (i := 28) (d := some 42) (v := ?mv29) rfl rfl (by kernel_rfl) (by kernel_rfl) (by kernel_rfl) (fun _ _ _ h => h) (Or.inl ⟨by rfl, ?my29⟩) hs ?mg29
  case my29 => (intro z hSz; (obtain ⟨⟨e0, e1, e2, e3⟩, e4, e5, e6⟩ := OLD.out _ (BE.trans (hSz.mono BE.size))); go_simp; (try with_reducible rfl))
  try simp only [Act.put, List.setIfInBounds_toArray, List.set_cons_zero, List.set_cons_succ]
  refine wpAnyH_ready (rs := [29]) (by kernel_rfl) (by simp) ?_
  refine AllReadyH.cons rfl (fun K' hK' => ?_) AllReadyH.nil
  go_simp
  refine hK'.out _ _ (hs.alloc hs.size _) (fun hs => ?_)
  clear hK' K'
  try simp only [Act.put, List.setIfInBounds_toArray, List.set_cons_zero, List.set_cons_succ]
  have PA := al_blk hs
  obtain ⟨A6, h6⟩ := al_w hs
  rw [← h6] at hs PA
  simp only [← h6]
  clear h6
  obtain ⟨V, hV⟩ := al_b PA
  rw [← hV] at PA nA
  simp only [← hV]
  clear hV
  refine wpAnyH_ready (rs := [30]) (by kernel_rfl) (by simp) ?_
  refine AllReadyH.cons rfl (fun K' hK' => ?_) AllReadyH.nil
  have nV := hs.size
  simp only [v1, v2, v3, v4, v5, v6, w2, w3, w4, w5]
  refine wp_store_row 26 _ _ rfl V #[.int .i64 x1, .int .i64 (256 * x2 + x3), .int .i64 (256 * x4 + x5), .int .i64 x6] rfl rfl 26 _ PA rfl rfl (by kernel_rfl) ?_
  refine hK'.out _ _ (below_setRow hs nA _) (fun hs => ?_)
  clear hK' K'
  try simp only [Act.put, List.setIfInBounds_toArray, List.set_cons_zero, List.set_cons_succ]
  replace PA := row_new (cs := #[.int .i64 x1, .int .i64 (256 * x2 + x3), .int .i64 (256 * x4 + x5), .int .i64 x6]) PA
  refine wpAnyH_done (by kernel_rfl) (NoPanic.normal ?_) _
  obtain ⟨X, hX⟩ := al_w hs
  rw [← hX] at hs PA
  simp only [← hX]
  clear hX
  have RX := REH.out.below hs REH.out.lt
  have BX := BE.trans (hs.mono BE.size)
  clear hs nV nA
  go_wp2_with fail
  refine (LF.out _ _ PA).mono ?_
  rintro e u ⟨rfl, hu⟩; have hu2 := hu.symm; subst hu2; clear hu
  have k0 : X.cell? ⟨w.heap.size, 0, none⟩ = some (.int .i64 0) := (RX.cell 0).trans rfl
  have k1 : X.cell? ⟨w.heap.size, 1, none⟩ = some (.int .i64 0) := (RX.cell 1).trans rfl
  have k2 : X.cell? ⟨w.heap.size, 2, none⟩ = some (.int .i64 0) := (RX.cell 2).trans rfl
  have k3 : X.cell? ⟨w.heap.size, 3, none⟩ = some (.int .i64 0) := (RX.cell 3).trans rfl
  have k4 : X.cell? ⟨w.heap.size, 4, none⟩ = some (.int .i64 0) := (RX.cell 4).trans rfl
  have f0 := RX.frozen 0
  have f1 := RX.frozen 1
  have f2 := RX.frozen 2
  have f3 := RX.frozen 3
  have f4 := RX.frozen 4
  have rx := RX.lt
  have y0 : X.cell? ⟨V, 0, none⟩ = some (.int .i64 x1) := (PA.cell 0).trans rfl
  have y1 : X.cell? ⟨V, 1, none⟩ = some (.int .i64 (256 * x2 + x3)) := (PA.cell 1).trans rfl
  have y2 : X.cell? ⟨V, 2, none⟩ = some (.int .i64 (256 * x4 + x5)) := (PA.cell 2).trans rfl
  have y3 : X.cell? ⟨V, 3, none⟩ = some (.int .i64 x6) := (PA.cell 3).trans rfl
  have vl := PA.lt
  clear PA RX REH LF OLD w2 w3 w4 w5 v1 v2 v3 v4 v5 v6
  cases rb with
  | true =>
    have e3 : hf = 0 := FB.out
    subst e3
    clear FB
    go_wp2
    refine bodyPost_ret (v := .agg #[.int .i64 (0), .int .i64 (x1), .int .i64 (256 * x2 + x3), .int .i64 (256 * x4 + x5), .int .i64 (x6)]) (by simp [results, Tryz.results11, go_sem, k0, k1, k2, k3, k4]) rfl ⟨rfl, ?_⟩
    exact ((((BX.setCell (Nat.le_refl _) _).setCell (Nat.le_refl _) _).setCell (Nat.le_refl _) _).setCell (Nat.le_refl _) _).setCell (Nat.le_refl _) _
  | false =>
    have e3 : hf = 3 := FB.out
    subst e3
    clear FB
    go_wp2
    refine bodyPost_ret (v := .agg #[.int .i64 (5), .int .i64 (0), .int .i64 (0), .int .i64 (0), .int .i64 (0)]) (by simp [results, Tryz.results11, go_sem, k0, k1, k2, k3, k4]) rfl ⟨rfl, ?_⟩
    exact ((((BX.setCell (Nat.le_refl _) _).setCell (Nat.le_refl _) _).setCell (Nat.le_refl _) _).setCell (Nat.le_refl _) _).setCell (Nat.le_refl _) _

end Go.Proofs.YtffidkoejlebeaaGreatDoor
