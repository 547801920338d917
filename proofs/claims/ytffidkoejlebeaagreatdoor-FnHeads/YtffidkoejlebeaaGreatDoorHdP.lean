/- Contracts: the model's bytes of a head, and their sum. -/
import Derived.Test.YtffidkoejlebeaaGreatDoorHdF
import Derived.Test.YtffidkoejlebeaaGreatDoorLvl
import Derived.Test.YtffidkoejlebeaaGreatDoorRegB
import Derived.Test.YtffidkoejlebeaaGreatDoorHdD
import Derived.Deep.DeepCutAuto
namespace Go.Proofs.YtffidkoejlebeaaGreatDoor
open Go.ChangeShapes Go.WideShapes Go.ChangeAt Go.RowKit
set_option maxRecDepth 100000
set_option linter.unusedVariables false
set_option linter.unusedSimpArgs false

theorem al_own {n base e k : Nat} {X Y : World} {O : Obj} {v : Value} {xs : List Value} (h : Below n X (Y.alloc O)) (P : Y.ownsRow base e 1 v k xs) : (Y.alloc O).ownsRow base e 1 v k xs := own_below P ((Below.refl Y.heap.size Y).alloc (Nat.le_refl _) O)
theorem al_hasK {n k : Nat} {X Y : World} {O : Obj} {K : IntKind} {a : Option Addr} {zs : List Int} (h : Below n X (Y.alloc O)) (P : Has Y K a k zs) : Has (Y.alloc O) K a k zs := P.alloc O
theorem al_lit2 {n base : Nat} {X Y : World} {a b : Int} (h : Below n X (Y.alloc (.cells #[.int .u8 a, .int .u8 b] 5))) (hb : base ≤ Y.heap.size) : World.ownsRow (Y.alloc (.cells #[.int .u8 a, .int .u8 b] 5)) base 5 1 (.slice (some ⟨Y.heap.size, 0, none⟩) 2 2) 2 (([a, b] : List Int).map (.int .u8)) := World.ownsRow_lit Y #[.int .u8 a, .int .u8 b] 2 hb (by unfold maxLen; omega) rfl
theorem al_neg {n base e k g c : Nat} {X Y : World} {O : Obj} {xs : List Value} (h : Below n X (Y.alloc O)) (P : Y.ownsRow base e 1 (.slice (some ⟨g, 0, none⟩) k c) k xs) : g ≠ Y.heap.size := Nat.ne_of_lt (P.lt g rfl).2
theorem has_grown {w w' : World} {k : IntKind} {b g n : Nat} {zs : List Int} (h : Has w k (some ⟨b, 0, none⟩) n zs) (hg : w.grownBy w' (some g)) (hn : g ≠ b) : Has w' k (some ⟨b, 0, none⟩) n zs := by
  refine ⟨h.1, h.2.1, h.2.2.imp id ?_⟩
  rintro ⟨b', off, e, hlt, hc⟩
  have e' := e
  simp at e'
  obtain ⟨rfl, rfl⟩ := e'
  exact ⟨b, 0, rfl, Nat.lt_of_lt_of_le hlt hg.size, fun i hi => (World.cell?_of_block (hg.block b hlt (by simp; exact Ne.symm hn))).trans (hc i hi)⟩
theorem al_two2 {n : Nat} {X Y : World} {a b : Int} (h : Below n X (Y.alloc (.cells #[.int .u8 a, .int .u8 b] 5))) (ha : 0 ≤ a ∧ a ≤ 255) (hb : 0 ≤ b ∧ b ≤ 255) : Has (Y.alloc (.cells #[.int .u8 a, .int .u8 b] 5)) .u8 (some ⟨Y.heap.size, 0, none⟩) [a, b].length [a, b] := has_of_own (base := 0) (al_lit2 h (Nat.zero_le _)) (by intro n hn; simp at hn; rcases hn with rfl | rfl; exact wf_u8 ha.1 ha.2; exact wf_u8 hb.1 hb.2)
theorem al_one1 {n : Nat} {X Y : World} {a : Int} (h : Below n X (Y.alloc (.cells #[.int .u8 a] 5))) (ha : 0 ≤ a ∧ a ≤ 255) : Has (Y.alloc (.cells #[.int .u8 a] 5)) .u8 (some ⟨Y.heap.size, 0, none⟩) [a].length [a] := by
  have : World.ownsRow (Y.alloc (.cells #[.int .u8 a] 5)) 0 5 1 (.slice (some ⟨Y.heap.size, 0, none⟩) 1 1) 1 (([a] : List Int).map (.int .u8)) := World.ownsRow_lit Y #[.int .u8 a] 1 (Nat.zero_le _) (by unfold maxLen; omega) rfl
  exact has_of_own this (by intro n hn; simp at hn; rw [hn]; exact wf_u8 ha.1 ha.2)

set_option maxHeartbeats 4000000 in
theorem l9Pack_any (g : Nat) (z r m k : Int) (w : World) (h : HdAt w g z r m k) (hb : hdB z r m k = true) :
    Calls Tryz.prog 30 #[.pointer (some ⟨g, 0, none⟩)] w fun e w' => ∃ a' c', e = .returned (.slice a' (hdL z r m k).length c') ∧ World.ownsRow w' w.heap.size 5 1 (.slice a' (hdL z r m k).length c') (hdL z r m k).length ((hdL z r m k).map (.int .u8)) ∧ Below w.heap.size w w' := by
  obtain ⟨i0, hi, hz0, hz1, hz2⟩ := info_parts info8
  obtain ⟨zb, rb, mb, kb⟩ := hdB_iff.1 hb
  have OLD : Hid (∀ u : World, Below w.heap.size w u → HdAt u g z r m k) := fun u hu => h.below hu
  have FIN : Hid (∀ (u : World) (g2 c2 : Nat), World.ownsRow u w.heap.size 5 1 (.slice (some ⟨g2, 0, none⟩) 7 c2) 7 (([5, z, r / 256, r % 256, m / 256, m % 256, k] : List Int).map (.int .u8)) → Below w.heap.size w u → ∃ a' c', Ending.returned (Value.slice (some ⟨g2, 0, none⟩) 7 c2) = .returned (.slice a' (hdL z r m k).length c') ∧ World.ownsRow u w.heap.size 5 1 (.slice a' (hdL z r m k).length c') (hdL z r m k).length ((hdL z r m k).map (.int .u8)) ∧ Below w.heap.size w u) := fun u g2 c2 h1 h2 => ⟨some ⟨g2, 0, none⟩, c2, rfl, h1, h2⟩
  have zw : IntKind.u8.wrap z = z := by rw [IntKind.wrap_u8]; omega
  have kw : IntKind.u8.wrap k = k := by rw [IntKind.wrap_u8]; omega
  clear h hb
  go_enter Tryz.func30, Tryz.ntmps30
  go_wp2_with fail
  refine wp_region_noPanic ?_
  refine wp_region_held_drew (S := fun u => Below w.heap.size w u) (by kernel_rfl) (Below.refl w.heap.size w).drew (fun hs => ?_)
  obtain ⟨XD, hXD⟩ := al_w hs
  rw [← hXD] at hs
  simp only [← hXD]
  clear hXD
  refine take_at (i := 0) (d := some 4) (v := ?mv1) rfl rfl (by kernel_rfl) (by kernel_rfl) (by kernel_rfl) (fun _ _ _ h => h) (Or.inl ⟨by rfl, ?my1⟩) hs ?mg1
  case my1 => (intro z hSz; (obtain ⟨e0, e1, e2, e3, e4⟩ := OLD.out _ hSz); go_simp; (try with_reducible rfl))
  try simp only [Act.put, List.setIfInBounds_toArray, List.set_cons_zero, List.set_cons_succ]
  refine take_at (i := 1) (d := some 5) (v := ?mv2) rfl rfl (by kernel_rfl) (by kernel_rfl) (by kernel_rfl) (fun _ _ _ h => h) (Or.inl ⟨by rfl, ?my2⟩) hs ?mg2
  case my2 => (intro z hSz; (obtain ⟨e0, e1, e2, e3, e4⟩ := OLD.out _ hSz); go_simp; (try with_reducible rfl))
  try simp only [Act.put, List.setIfInBounds_toArray, List.set_cons_zero, List.set_cons_succ]
  refine take_at (i := 2) (d := some 6) (v := ?mv3) rfl rfl (by kernel_rfl) (by kernel_rfl) (by kernel_rfl) (fun _ _ _ h => h) (Or.inl ⟨by rfl, ?my3⟩) hs ?mg3
  case my3 => (intro z hSz; (obtain ⟨e0, e1, e2, e3, e4⟩ := OLD.out _ hSz); go_simp; (try with_reducible rfl))
  try simp only [Act.put, List.setIfInBounds_toArray, List.set_cons_zero, List.set_cons_succ]
  refine take_at (i := 3) (d := some 7) (v := ?mv4) rfl rfl (by kernel_rfl) (by kernel_rfl) (by kernel_rfl) (fun _ _ _ h => h) (Or.inl ⟨by rfl, ?my4⟩) hs ?mg4
  case my4 => (intro z hSz; (obtain ⟨e0, e1, e2, e3, e4⟩ := OLD.out _ hSz); go_simp; (try with_reducible rfl))
  try simp only [Act.put, List.setIfInBounds_toArray, List.set_cons_zero, List.set_cons_succ]
  refine take_at (i := 4) (d := some 8) (v := ?mv5) rfl rfl (by kernel_rfl) (by kernel_rfl) (by kernel_rfl) (fun _ _ _ h => h) (Or.inl ⟨by rfl, ?my5⟩) hs ?mg5
  case my5 => (intro z hSz; (obtain ⟨e0, e1, e2, e3, e4⟩ := OLD.out _ hSz); go_simp; (try with_reducible rfl))
  try simp only [Act.put, List.setIfInBounds_toArray, List.set_cons_zero, List.set_cons_succ]
  refine take_at (i := 6) (d := some 10) (v := ?mv6) rfl rfl (by kernel_rfl) (by kernel_rfl) (by kernel_rfl) (fun _ _ _ h => h) (Or.inl ⟨by rfl, ?my6⟩) hs ?mg6
  case my6 => (intro z hSz; (obtain ⟨e0, e1, e2, e3, e4⟩ := OLD.out _ hSz); go_simp; (try with_reducible rfl))
  try simp only [Act.put, List.setIfInBounds_toArray, List.set_cons_zero, List.set_cons_succ]
  refine take_at (i := 7) (d := some 11) (v := ?mv7) rfl rfl (by kernel_rfl) (by kernel_rfl) (by kernel_rfl) (fun _ _ _ h => h) (Or.inl ⟨by rfl, ?my7⟩) hs ?mg7
  case my7 => (intro z hSz; (obtain ⟨e0, e1, e2, e3, e4⟩ := OLD.out _ hSz); go_simp; (try with_reducible rfl))
  try simp only [Act.put, List.setIfInBounds_toArray, List.set_cons_zero, List.set_cons_succ]
  refine take_at (i := 8) (d := some 12) (v := ?mv8) rfl rfl (by kernel_rfl) (by kernel_rfl) (by kernel_rfl) (fun _ _ _ h => h) (Or.inl ⟨by rfl, ?my8⟩) hs ?mg8
  case my8 => (intro z hSz; (obtain ⟨e0, e1, e2, e3, e4⟩ := OLD.out _ hSz); go_simp; (try with_reducible rfl))
  try simp only [Act.put, List.setIfInBounds_toArray, List.set_cons_zero, List.set_cons_succ]
  refine take_at (i := 9) (d := some 13) (v := ?mv9) rfl rfl (by kernel_rfl) (by kernel_rfl) (by kernel_rfl) (fun _ _ _ h => h) (Or.inl ⟨by rfl, ?my9⟩) hs ?mg9
  case my9 => (intro z hSz; (obtain ⟨e0, e1, e2, e3, e4⟩ := OLD.out _ hSz); go_simp; (try with_reducible rfl))
  try simp only [Act.put, List.setIfInBounds_toArray, List.set_cons_zero, List.set_cons_succ]
  refine wpAnyH_ready (rs := [5, 10]) (by kernel_rfl) (by simp) ?_
  refine AllReadyH.cons rfl (fun K' hK' => ?_) (AllReadyH.cons rfl (fun K' hK' => ?_) AllReadyH.nil)
  · have nP := hs.size
    go_simp
    (try rw [zw])
    refine hK'.out _ _ (hs.alloc hs.size _) (fun hs => ?_)
    clear hK' K'
    try simp only [Act.put, List.setIfInBounds_toArray, List.set_cons_zero, List.set_cons_succ]
    have RA := al_lit2 hs nP
    (try replace TA := al_hasK hs TA)
    obtain ⟨A6, h6⟩ := al_w hs
    rw [← h6] at hs
    (try rw [← h6] at RA)
    (try rw [← h6] at TA)
    simp only [← h6]
    clear h6
    refine wpAnyH_ready (rs := [10]) (by kernel_rfl) (by simp) ?_
    refine AllReadyH.cons rfl (fun K' hK' => ?_) AllReadyH.nil
    have nQ := hs.size
    go_simp
    refine (l2Two_any r _ rb.1 (by omega)).mono ?_
    rintro _ ub ⟨rfl, rfl⟩
    refine hK'.out _ _ (hs.alloc hs.size _) (fun hs => ?_)
    clear hK' K'
    try simp only [Act.put, List.setIfInBounds_toArray, List.set_cons_zero, List.set_cons_succ]
    have TA := al_two2 hs ⟨Int.ediv_nonneg rb.1 (by decide), by omega⟩ ⟨by omega, by omega⟩
    (try replace RA := al_own hs RA)
    obtain ⟨A6, h6⟩ := al_w hs
    rw [← h6] at hs
    (try rw [← h6] at TA)
    (try rw [← h6] at RA)
    simp only [← h6]
    clear h6
    refine wpAnyH_ready (rs := [11]) (by kernel_rfl) (by simp) ?_
    refine AllReadyH.cons rfl (fun K' hK' => ?_) AllReadyH.nil
    refine step_app rfl _ _ 22 rfl w.heap.size 5 i0 Tryz.underlying22 hi hz0 hz1 hz2 _ 2 _ _ rfl RA _ _ [r / 256, r % 256] rfl TA (by omega) (by simp) hs.size ?_
    intro g1 c1 u' hown' hgrow' hat' hlt'
    have D' : Below w.heap.size w u' := Below.grown hs hgrow' hs.size (by intro q hq; cases hq; exact (RA.lt _ rfl).1)
    refine hK'.out _ _ D' (fun hs => ?_)
    clear hK' K'
    try simp only [Act.put, List.setIfInBounds_toArray, List.set_cons_zero, List.set_cons_succ]
    replace RA : World.ownsRow u' w.heap.size 5 1 (.slice (some ⟨g1, 0, none⟩) 4 c1) 4 (([5, z, r / 256, r % 256] : List Int).map (.int .u8)) := by simpa using hown'
    refine wpAnyH_ready (rs := [12]) (by kernel_rfl) (by simp) ?_
    refine AllReadyH.cons rfl (fun K' hK' => ?_) AllReadyH.nil
    go_simp
    refine hK'.out _ _ hs (fun hs => ?_)
    clear hK' K'
    try simp only [Act.put, List.setIfInBounds_toArray, List.set_cons_zero, List.set_cons_succ]
    refine wpAnyH_done (by kernel_rfl) (NoPanic.normal ?_) _
    have D1 := hs
    clear hs TA hown' hgrow' hat' hlt' D'
    go_wp2_with fail
    refine wp_region_noPanic ?_
    refine wp_region_held_drew (S := fun u => Below w.heap.size w u) (by kernel_rfl) D1.drew (fun hs => ?_)
    obtain ⟨XD, hXD⟩ := al_w hs
    rw [← hXD] at hs
    have RB := own_below RA ((Below.refl _ _).drew)
    rw [← hXD] at RB
    simp only [← hXD]
    clear hXD RA D1
    refine take_at (i := 0) (d := some 16) (v := ?mv10) rfl rfl (by kernel_rfl) (by kernel_rfl) (by kernel_rfl) (fun _ _ _ h => h) (Or.inl ⟨by rfl, ?my10⟩) hs ?mg10
    case my10 => (intro z hSz; (obtain ⟨e0, e1, e2, e3, e4⟩ := OLD.out _ hSz); go_simp; (try with_reducible rfl))
    try simp only [Act.put, List.setIfInBounds_toArray, List.set_cons_zero, List.set_cons_succ]
    refine take_at (i := 1) (d := some 17) (v := ?mv11) rfl rfl (by kernel_rfl) (by kernel_rfl) (by kernel_rfl) (fun _ _ _ h => h) (Or.inl ⟨by rfl, ?my11⟩) hs ?mg11
    case my11 => (intro z hSz; (obtain ⟨e0, e1, e2, e3, e4⟩ := OLD.out _ hSz); go_simp; (try with_reducible rfl))
    try simp only [Act.put, List.setIfInBounds_toArray, List.set_cons_zero, List.set_cons_succ]
    refine take_at (i := 2) (d := some 18) (v := ?mv12) rfl rfl (by kernel_rfl) (by kernel_rfl) (by kernel_rfl) (fun _ _ _ h => h) (Or.inl ⟨by rfl, ?my12⟩) hs ?mg12
    case my12 => (intro z hSz; (obtain ⟨e0, e1, e2, e3, e4⟩ := OLD.out _ hSz); go_simp; (try with_reducible rfl))
    try simp only [Act.put, List.setIfInBounds_toArray, List.set_cons_zero, List.set_cons_succ]
    refine take_at (i := 3) (d := some 19) (v := ?mv13) rfl rfl (by kernel_rfl) (by kernel_rfl) (by kernel_rfl) (fun _ _ _ h => h) (Or.inl ⟨by rfl, ?my13⟩) hs ?mg13
    case my13 => (intro z hSz; (obtain ⟨e0, e1, e2, e3, e4⟩ := OLD.out _ hSz); go_simp; (try with_reducible rfl))
    try simp only [Act.put, List.setIfInBounds_toArray, List.set_cons_zero, List.set_cons_succ]
    refine take_at (i := 4) (d := some 20) (v := ?mv14) rfl rfl (by kernel_rfl) (by kernel_rfl) (by kernel_rfl) (fun _ _ _ h => h) (Or.inl ⟨by rfl, ?my14⟩) hs ?mg14
    case my14 => (intro z hSz; (obtain ⟨e0, e1, e2, e3, e4⟩ := OLD.out _ hSz); go_simp; (try with_reducible rfl))
    try simp only [Act.put, List.setIfInBounds_toArray, List.set_cons_zero, List.set_cons_succ]
    refine take_at (i := 7) (d := some 23) (v := ?mv15) rfl rfl (by kernel_rfl) (by kernel_rfl) (by kernel_rfl) (fun _ _ _ h => h) (Or.inl ⟨by rfl, ?my15⟩) hs ?mg15
    case my15 => (intro z hSz; (obtain ⟨e0, e1, e2, e3, e4⟩ := OLD.out _ hSz); go_simp; (try with_reducible rfl))
    try simp only [Act.put, List.setIfInBounds_toArray, List.set_cons_zero, List.set_cons_succ]
    refine take_at (i := 8) (d := some 24) (v := ?mv16) rfl rfl (by kernel_rfl) (by kernel_rfl) (by kernel_rfl) (fun _ _ _ h => h) (Or.inl ⟨by rfl, ?my16⟩) hs ?mg16
    case my16 => (intro z hSz; (obtain ⟨e0, e1, e2, e3, e4⟩ := OLD.out _ hSz); go_simp; (try with_reducible rfl))
    try simp only [Act.put, List.setIfInBounds_toArray, List.set_cons_zero, List.set_cons_succ]
    refine take_at (i := 9) (d := some 25) (v := ?mv17) rfl rfl (by kernel_rfl) (by kernel_rfl) (by kernel_rfl) (fun _ _ _ h => h) (Or.inl ⟨by rfl, ?my17⟩) hs ?mg17
    case my17 => (intro z hSz; (obtain ⟨e0, e1, e2, e3, e4⟩ := OLD.out _ hSz); go_simp; (try with_reducible rfl))
    try simp only [Act.put, List.setIfInBounds_toArray, List.set_cons_zero, List.set_cons_succ]
    refine take_at (i := 10) (d := some 26) (v := ?mv18) rfl rfl (by kernel_rfl) (by kernel_rfl) (by kernel_rfl) (fun _ _ _ h => h) (Or.inl ⟨by rfl, ?my18⟩) hs ?mg18
    case my18 => (intro z hSz; (obtain ⟨e0, e1, e2, e3, e4⟩ := OLD.out _ hSz); go_simp; (try with_reducible rfl))
    try simp only [Act.put, List.setIfInBounds_toArray, List.set_cons_zero, List.set_cons_succ]
    refine take_at (i := 11) (d := some 27) (v := ?mv19) rfl rfl (by kernel_rfl) (by kernel_rfl) (by kernel_rfl) (fun _ _ _ h => h) (Or.inl ⟨by rfl, ?my19⟩) hs ?mg19
    case my19 => (intro z hSz; (obtain ⟨e0, e1, e2, e3, e4⟩ := OLD.out _ hSz); go_simp; (try with_reducible rfl))
    try simp only [Act.put, List.setIfInBounds_toArray, List.set_cons_zero, List.set_cons_succ]
    refine wpAnyH_ready (rs := [5, 12]) (by kernel_rfl) (by simp) ?_
    refine AllReadyH.cons rfl (fun K' hK' => ?_) (AllReadyH.cons rfl (fun K' hK' => ?_) AllReadyH.nil)
    · have nQ := hs.size
      go_simp
      refine (l2Two_any m _ mb.1 (by omega)).mono ?_
      rintro _ ub ⟨rfl, rfl⟩
      refine hK'.out _ _ (hs.alloc hs.size _) (fun hs => ?_)
      clear hK' K'
      try simp only [Act.put, List.setIfInBounds_toArray, List.set_cons_zero, List.set_cons_succ]
      have TB := al_two2 hs ⟨Int.ediv_nonneg mb.1 (by decide), by omega⟩ ⟨by omega, by omega⟩
      replace RB := al_own hs RB
      (try replace TK := al_hasK hs TK)
      obtain ⟨A6, h6⟩ := al_w hs
      rw [← h6] at hs
      (try rw [← h6] at TB)
      (try rw [← h6] at RB)
      (try rw [← h6] at TK)
      simp only [← h6]
      clear h6
      refine wpAnyH_ready (rs := [6, 12]) (by kernel_rfl) (by simp) ?_
      refine AllReadyH.cons rfl (fun K' hK' => ?_) (AllReadyH.cons rfl (fun K' hK' => ?_) AllReadyH.nil)
      · refine step_app rfl _ _ 22 rfl w.heap.size 5 i0 Tryz.underlying22 hi hz0 hz1 hz2 g1 4 c1 _ rfl RB _ _ [m / 256, m % 256] rfl TB (by omega) (by simp) hs.size ?_
        intro g2 c2 u' hown' hgrow' hat' hlt'
        have D' : Below w.heap.size w u' := Below.grown hs hgrow' hs.size (by intro q hq; cases hq; exact (RB.lt _ rfl).1)
        refine hK'.out _ _ D' (fun hs => ?_)
        clear hK' K'
        try simp only [Act.put, List.setIfInBounds_toArray, List.set_cons_zero, List.set_cons_succ]
        have RC : World.ownsRow u' w.heap.size 5 1 (.slice (some ⟨g2, 0, none⟩) 6 c2) 6 (([5, z, r / 256, r % 256, m / 256, m % 256] : List Int).map (.int .u8)) := by simpa using hown'
        (try replace TK := has_grown TK hgrow' KN)
        refine wpAnyH_ready (rs := [12]) (by kernel_rfl) (by simp) ?_
        refine AllReadyH.cons rfl (fun K' hK' => ?_) AllReadyH.nil
        go_simp
        refine hK'.out _ _ (hs.alloc hs.size _) (fun hs => ?_)
        clear hK' K'
        try simp only [Act.put, List.setIfInBounds_toArray, List.set_cons_zero, List.set_cons_succ]
        have TK := al_one1 hs ⟨kb.1, by omega⟩
        (try have KN := al_neg hs RB)
        (try replace RB := al_own hs RB)
        (try replace RC := al_own hs RC)
        (try replace TB := al_hasK hs TB)
        obtain ⟨A6, h6⟩ := al_w hs
        rw [← h6] at hs
        (try rw [← h6] at TK)
        (try rw [← h6] at RB)
        (try rw [← h6] at RC)
        (try rw [← h6] at TB)
        simp only [← h6]
        clear h6
        refine wpAnyH_ready (rs := [13]) (by kernel_rfl) (by simp) ?_
        refine AllReadyH.cons rfl (fun K' hK' => ?_) AllReadyH.nil
        refine step_app rfl _ _ 22 rfl w.heap.size 5 i0 Tryz.underlying22 hi hz0 hz1 hz2 g2 6 c2 _ rfl RC _ _ [k] rfl TK (by omega) (by simp) hs.size ?_
        intro g3 c3 u' hown' hgrow' hat' hlt'
        have D' : Below w.heap.size w u' := Below.grown hs hgrow' hs.size (by intro q hq; cases hq; exact (RC.lt _ rfl).1)
        refine hK'.out _ _ D' (fun hs => ?_)
        clear hK' K'
        try simp only [Act.put, List.setIfInBounds_toArray, List.set_cons_zero, List.set_cons_succ]
        have RD : World.ownsRow u' w.heap.size 5 1 (.slice (some ⟨g3, 0, none⟩) 7 c3) 7 (([5, z, r / 256, r % 256, m / 256, m % 256, k] : List Int).map (.int .u8)) := by simpa using hown'
        refine wpAnyH_ready (rs := [14]) (by kernel_rfl) (by simp) ?_
        refine AllReadyH.cons rfl (fun K' hK' => ?_) AllReadyH.nil
        go_simp
        refine hK'.out _ _ hs (fun hs => ?_)
        clear hK' K'
        try simp only [Act.put, List.setIfInBounds_toArray, List.set_cons_zero, List.set_cons_succ]
        refine wpAnyH_done (by kernel_rfl) (NoPanic.normal ?_) _
        have DF := hs
        clear hs
        go_wp2
        go_ret
        exact FIN.out _ _ _ RD DF
      · go_simp
        refine hK'.out _ _ (hs.alloc hs.size _) (fun hs => ?_)
        clear hK' K'
        try simp only [Act.put, List.setIfInBounds_toArray, List.set_cons_zero, List.set_cons_succ]
        have TK := al_one1 hs ⟨kb.1, by omega⟩
        (try have KN := al_neg hs RB)
        (try replace RB := al_own hs RB)
        (try replace RC := al_own hs RC)
        (try replace TB := al_hasK hs TB)
        obtain ⟨A6, h6⟩ := al_w hs
        rw [← h6] at hs
        (try rw [← h6] at TK)
        (try rw [← h6] at RB)
        (try rw [← h6] at RC)
        (try rw [← h6] at TB)
        simp only [← h6]
        clear h6
        refine wpAnyH_ready (rs := [6]) (by kernel_rfl) (by simp) ?_
        refine AllReadyH.cons rfl (fun K' hK' => ?_) AllReadyH.nil
        refine step_app rfl _ _ 22 rfl w.heap.size 5 i0 Tryz.underlying22 hi hz0 hz1 hz2 g1 4 c1 _ rfl RB _ _ [m / 256, m % 256] rfl TB (by omega) (by simp) hs.size ?_
        intro g2 c2 u' hown' hgrow' hat' hlt'
        have D' : Below w.heap.size w u' := Below.grown hs hgrow' hs.size (by intro q hq; cases hq; exact (RB.lt _ rfl).1)
        refine hK'.out _ _ D' (fun hs => ?_)
        clear hK' K'
        try simp only [Act.put, List.setIfInBounds_toArray, List.set_cons_zero, List.set_cons_succ]
        have RC : World.ownsRow u' w.heap.size 5 1 (.slice (some ⟨g2, 0, none⟩) 6 c2) 6 (([5, z, r / 256, r % 256, m / 256, m % 256] : List Int).map (.int .u8)) := by simpa using hown'
        (try replace TK := has_grown TK hgrow' KN)
        refine wpAnyH_ready (rs := [13]) (by kernel_rfl) (by simp) ?_
        refine AllReadyH.cons rfl (fun K' hK' => ?_) AllReadyH.nil
        refine step_app rfl _ _ 22 rfl w.heap.size 5 i0 Tryz.underlying22 hi hz0 hz1 hz2 g2 6 c2 _ rfl RC _ _ [k] rfl TK (by omega) (by simp) hs.size ?_
        intro g3 c3 u' hown' hgrow' hat' hlt'
        have D' : Below w.heap.size w u' := Below.grown hs hgrow' hs.size (by intro q hq; cases hq; exact (RC.lt _ rfl).1)
        refine hK'.out _ _ D' (fun hs => ?_)
        clear hK' K'
        try simp only [Act.put, List.setIfInBounds_toArray, List.set_cons_zero, List.set_cons_succ]
        have RD : World.ownsRow u' w.heap.size 5 1 (.slice (some ⟨g3, 0, none⟩) 7 c3) 7 (([5, z, r / 256, r % 256, m / 256, m % 256, k] : List Int).map (.int .u8)) := by simpa using hown'
        refine wpAnyH_ready (rs := [14]) (by kernel_rfl) (by simp) ?_
        refine AllReadyH.cons rfl (fun K' hK' => ?_) AllReadyH.nil
        go_simp
        refine hK'.out _ _ hs (fun hs => ?_)
        clear hK' K'
        try simp only [Act.put, List.setIfInBounds_toArray, List.set_cons_zero, List.set_cons_succ]
        refine wpAnyH_done (by kernel_rfl) (NoPanic.normal ?_) _
        have DF := hs
        clear hs
        go_wp2
        go_ret
        exact FIN.out _ _ _ RD DF
    · go_simp
      refine hK'.out _ _ (hs.alloc hs.size _) (fun hs => ?_)
      clear hK' K'
      try simp only [Act.put, List.setIfInBounds_toArray, List.set_cons_zero, List.set_cons_succ]
      have TK := al_one1 hs ⟨kb.1, by omega⟩
      (try have KN := al_neg hs RB)
      (try replace RB := al_own hs RB)
      (try replace RC := al_own hs RC)
      (try replace TB := al_hasK hs TB)
      obtain ⟨A6, h6⟩ := al_w hs
      rw [← h6] at hs
      (try rw [← h6] at TK)
      (try rw [← h6] at RB)
      (try rw [← h6] at RC)
      (try rw [← h6] at TB)
      simp only [← h6]
      clear h6
      refine wpAnyH_ready (rs := [5]) (by kernel_rfl) (by simp) ?_
      refine AllReadyH.cons rfl (fun K' hK' => ?_) AllReadyH.nil
      have nQ := hs.size
      go_simp
      refine (l2Two_any m _ mb.1 (by omega)).mono ?_
      rintro _ ub ⟨rfl, rfl⟩
      refine hK'.out _ _ (hs.alloc hs.size _) (fun hs => ?_)
      clear hK' K'
      try simp only [Act.put, List.setIfInBounds_toArray, List.set_cons_zero, List.set_cons_succ]
      have TB := al_two2 hs ⟨Int.ediv_nonneg mb.1 (by decide), by omega⟩ ⟨by omega, by omega⟩
      replace RB := al_own hs RB
      (try replace TK := al_hasK hs TK)
      obtain ⟨A6, h6⟩ := al_w hs
      rw [← h6] at hs
      (try rw [← h6] at TB)
      (try rw [← h6] at RB)
      (try rw [← h6] at TK)
      simp only [← h6]
      clear h6
      refine wpAnyH_ready (rs := [6]) (by kernel_rfl) (by simp) ?_
      refine AllReadyH.cons rfl (fun K' hK' => ?_) AllReadyH.nil
      refine step_app rfl _ _ 22 rfl w.heap.size 5 i0 Tryz.underlying22 hi hz0 hz1 hz2 g1 4 c1 _ rfl RB _ _ [m / 256, m % 256] rfl TB (by omega) (by simp) hs.size ?_
      intro g2 c2 u' hown' hgrow' hat' hlt'
      have D' : Below w.heap.size w u' := Below.grown hs hgrow' hs.size (by intro q hq; cases hq; exact (RB.lt _ rfl).1)
      refine hK'.out _ _ D' (fun hs => ?_)
      clear hK' K'
      try simp only [Act.put, List.setIfInBounds_toArray, List.set_cons_zero, List.set_cons_succ]
      have RC : World.ownsRow u' w.heap.size 5 1 (.slice (some ⟨g2, 0, none⟩) 6 c2) 6 (([5, z, r / 256, r % 256, m / 256, m % 256] : List Int).map (.int .u8)) := by simpa using hown'
      (try replace TK := has_grown TK hgrow' KN)
      refine wpAnyH_ready (rs := [13]) (by kernel_rfl) (by simp) ?_
      refine AllReadyH.cons rfl (fun K' hK' => ?_) AllReadyH.nil
      refine step_app rfl _ _ 22 rfl w.heap.size 5 i0 Tryz.underlying22 hi hz0 hz1 hz2 g2 6 c2 _ rfl RC _ _ [k] rfl TK (by omega) (by simp) hs.size ?_
      intro g3 c3 u' hown' hgrow' hat' hlt'
      have D' : Below w.heap.size w u' := Below.grown hs hgrow' hs.size (by intro q hq; cases hq; exact (RC.lt _ rfl).1)
      refine hK'.out _ _ D' (fun hs => ?_)
      clear hK' K'
      try simp only [Act.put, List.setIfInBounds_toArray, List.set_cons_zero, List.set_cons_succ]
      have RD : World.ownsRow u' w.heap.size 5 1 (.slice (some ⟨g3, 0, none⟩) 7 c3) 7 (([5, z, r / 256, r % 256, m / 256, m % 256, k] : List Int).map (.int .u8)) := by simpa using hown'
      refine wpAnyH_ready (rs := [14]) (by kernel_rfl) (by simp) ?_
      refine AllReadyH.cons rfl (fun K' hK' => ?_) AllReadyH.nil
      go_simp
      refine hK'.out _ _ hs (fun hs => ?_)
      clear hK' K'
      try simp only [Act.put, List.setIfInBounds_toArray, List.set_cons_zero, List.set_cons_succ]
      refine wpAnyH_done (by kernel_rfl) (NoPanic.normal ?_) _
      have DF := hs
      clear hs
      go_wp2
      go_ret
      exact FIN.out _ _ _ RD DF
  · have nQ := hs.size
    go_simp
    refine (l2Two_any r _ rb.1 (by omega)).mono ?_
    rintro _ ub ⟨rfl, rfl⟩
    refine hK'.out _ _ (hs.alloc hs.size _) (fun hs => ?_)
    clear hK' K'
    try simp only [Act.put, List.setIfInBounds_toArray, List.set_cons_zero, List.set_cons_succ]
    have TA := al_two2 hs ⟨Int.ediv_nonneg rb.1 (by decide), by omega⟩ ⟨by omega, by omega⟩
    (try replace RA := al_own hs RA)
    obtain ⟨A6, h6⟩ := al_w hs
    rw [← h6] at hs
    (try rw [← h6] at TA)
    (try rw [← h6] at RA)
    simp only [← h6]
    clear h6
    refine wpAnyH_ready (rs := [5]) (by kernel_rfl) (by simp) ?_
    refine AllReadyH.cons rfl (fun K' hK' => ?_) AllReadyH.nil
    have nP := hs.size
    go_simp
    (try rw [zw])
    refine hK'.out _ _ (hs.alloc hs.size _) (fun hs => ?_)
    clear hK' K'
    try simp only [Act.put, List.setIfInBounds_toArray, List.set_cons_zero, List.set_cons_succ]
    have RA := al_lit2 hs nP
    (try replace TA := al_hasK hs TA)
    obtain ⟨A6, h6⟩ := al_w hs
    rw [← h6] at hs
    (try rw [← h6] at RA)
    (try rw [← h6] at TA)
    simp only [← h6]
    clear h6
    refine wpAnyH_ready (rs := [11]) (by kernel_rfl) (by simp) ?_
    refine AllReadyH.cons rfl (fun K' hK' => ?_) AllReadyH.nil
    refine step_app rfl _ _ 22 rfl w.heap.size 5 i0 Tryz.underlying22 hi hz0 hz1 hz2 _ 2 _ _ rfl RA _ _ [r / 256, r % 256] rfl TA (by omega) (by simp) hs.size ?_
    intro g1 c1 u' hown' hgrow' hat' hlt'
    have D' : Below w.heap.size w u' := Below.grown hs hgrow' hs.size (by intro q hq; cases hq; exact (RA.lt _ rfl).1)
    refine hK'.out _ _ D' (fun hs => ?_)
    clear hK' K'
    try simp only [Act.put, List.setIfInBounds_toArray, List.set_cons_zero, List.set_cons_succ]
    replace RA : World.ownsRow u' w.heap.size 5 1 (.slice (some ⟨g1, 0, none⟩) 4 c1) 4 (([5, z, r / 256, r % 256] : List Int).map (.int .u8)) := by simpa using hown'
    refine wpAnyH_ready (rs := [12]) (by kernel_rfl) (by simp) ?_
    refine AllReadyH.cons rfl (fun K' hK' => ?_) AllReadyH.nil
    go_simp
    refine hK'.out _ _ hs (fun hs => ?_)
    clear hK' K'
    try simp only [Act.put, List.setIfInBounds_toArray, List.set_cons_zero, List.set_cons_succ]
    refine wpAnyH_done (by kernel_rfl) (NoPanic.normal ?_) _
    have D1 := hs
    clear hs TA hown' hgrow' hat' hlt' D'
    go_wp2_with fail
    refine wp_region_noPanic ?_
    refine wp_region_held_drew (S := fun u => Below w.heap.size w u) (by kernel_rfl) D1.drew (fun hs => ?_)
    obtain ⟨XD, hXD⟩ := al_w hs
    rw [← hXD] at hs
    have RB := own_below RA ((Below.refl _ _).drew)
    rw [← hXD] at RB
    simp only [← hXD]
    clear hXD RA D1
    refine take_at (i := 0) (d := some 16) (v := ?mv20) rfl rfl (by kernel_rfl) (by kernel_rfl) (by kernel_rfl) (fun _ _ _ h => h) (Or.inl ⟨by rfl, ?my20⟩) hs ?mg20
    case my20 => (intro z hSz; (obtain ⟨e0, e1, e2, e3, e4⟩ := OLD.out _ hSz); go_simp; (try with_reducible rfl))
    try simp only [Act.put, List.setIfInBounds_toArray, List.set_cons_zero, List.set_cons_succ]
    refine take_at (i := 1) (d := some 17) (v := ?mv21) rfl rfl (by kernel_rfl) (by kernel_rfl) (by kernel_rfl) (fun _ _ _ h => h) (Or.inl ⟨by rfl, ?my21⟩) hs ?mg21
    case my21 => (intro z hSz; (obtain ⟨e0, e1, e2, e3, e4⟩ := OLD.out _ hSz); go_simp; (try with_reducible rfl))
    try simp only [Act.put, List.setIfInBounds_toArray, List.set_cons_zero, List.set_cons_succ]
    refine take_at (i := 2) (d := some 18) (v := ?mv22) rfl rfl (by kernel_rfl) (by kernel_rfl) (by kernel_rfl) (fun _ _ _ h => h) (Or.inl ⟨by rfl, ?my22⟩) hs ?mg22
    case my22 => (intro z hSz; (obtain ⟨e0, e1, e2, e3, e4⟩ := OLD.out _ hSz); go_simp; (try with_reducible rfl))
    try simp only [Act.put, List.setIfInBounds_toArray, List.set_cons_zero, List.set_cons_succ]
    refine take_at (i := 3) (d := some 19) (v := ?mv23) rfl rfl (by kernel_rfl) (by kernel_rfl) (by kernel_rfl) (fun _ _ _ h => h) (Or.inl ⟨by rfl, ?my23⟩) hs ?mg23
    case my23 => (intro z hSz; (obtain ⟨e0, e1, e2, e3, e4⟩ := OLD.out _ hSz); go_simp; (try with_reducible rfl))
    try simp only [Act.put, List.setIfInBounds_toArray, List.set_cons_zero, List.set_cons_succ]
    refine take_at (i := 4) (d := some 20) (v := ?mv24) rfl rfl (by kernel_rfl) (by kernel_rfl) (by kernel_rfl) (fun _ _ _ h => h) (Or.inl ⟨by rfl, ?my24⟩) hs ?mg24
    case my24 => (intro z hSz; (obtain ⟨e0, e1, e2, e3, e4⟩ := OLD.out _ hSz); go_simp; (try with_reducible rfl))
    try simp only [Act.put, List.setIfInBounds_toArray, List.set_cons_zero, List.set_cons_succ]
    refine take_at (i := 7) (d := some 23) (v := ?mv25) rfl rfl (by kernel_rfl) (by kernel_rfl) (by kernel_rfl) (fun _ _ _ h => h) (Or.inl ⟨by rfl, ?my25⟩) hs ?mg25
    case my25 => (intro z hSz; (obtain ⟨e0, e1, e2, e3, e4⟩ := OLD.out _ hSz); go_simp; (try with_reducible rfl))
    try simp only [Act.put, List.setIfInBounds_toArray, List.set_cons_zero, List.set_cons_succ]
    refine take_at (i := 8) (d := some 24) (v := ?mv26) rfl rfl (by kernel_rfl) (by kernel_rfl) (by kernel_rfl) (fun _ _ _ h => h) (Or.inl ⟨by rfl, ?my26⟩) hs ?mg26
    case my26 => (intro z hSz; (obtain ⟨e0, e1, e2, e3, e4⟩ := OLD.out _ hSz); go_simp; (try with_reducible rfl))
    try simp only [Act.put, List.setIfInBounds_toArray, List.set_cons_zero, List.set_cons_succ]
    refine take_at (i := 9) (d := some 25) (v := ?mv27) rfl rfl (by kernel_rfl) (by kernel_rfl) (by kernel_rfl) (fun _ _ _ h => h) (Or.inl ⟨by rfl, ?my27⟩) hs ?mg27
    case my27 => (intro z hSz; (obtain ⟨e0, e1, e2, e3, e4⟩ := OLD.out _ hSz); go_simp; (try with_reducible rfl))
    try simp only [Act.put, List.setIfInBounds_toArray, List.set_cons_zero, List.set_cons_succ]
    refine take_at (i := 10) (d := some 26) (v := ?mv28) rfl rfl (by kernel_rfl) (by kernel_rfl) (by kernel_rfl) (fun _ _ _ h => h) (Or.inl ⟨by rfl, ?my28⟩) hs ?mg28
    case my28 => (intro z hSz; (obtain ⟨e0, e1, e2, e3, e4⟩ := OLD.out _ hSz); go_simp; (try with_reducible rfl))
    try simp only [Act.put, List.setIfInBounds_toArray, List.set_cons_zero, List.set_cons_succ]
    refine take_at (i := 11) (d := some 27) (v := ?mv29) rfl rfl (by kernel_rfl) (by kernel_rfl) (by kernel_rfl) (fun _ _ _ h => h) (Or.inl ⟨by rfl, ?my29⟩) hs ?mg29
    case my29 => (intro z hSz; (obtain ⟨e0, e1, e2, e3, e4⟩ := OLD.out _ hSz); go_simp; (try with_reducible rfl))
    try simp only [Act.put, List.setIfInBounds_toArray, List.set_cons_zero, List.set_cons_succ]
    refine wpAnyH_ready (rs := [5, 12]) (by kernel_rfl) (by simp) ?_
    refine AllReadyH.cons rfl (fun K' hK' => ?_) (AllReadyH.cons rfl (fun K' hK' => ?_) AllReadyH.nil)
    · have nQ := hs.size
      go_simp
      refine (l2Two_any m _ mb.1 (by omega)).mono ?_
      rintro _ ub ⟨rfl, rfl⟩
      refine hK'.out _ _ (hs.alloc hs.size _) (fun hs => ?_)
      clear hK' K'
      try simp only [Act.put, List.setIfInBounds_toArray, List.set_cons_zero, List.set_cons_succ]
      have TB := al_two2 hs ⟨Int.ediv_nonneg mb.1 (by decide), by omega⟩ ⟨by omega, by omega⟩
      replace RB := al_own hs RB
      (try replace TK := al_hasK hs TK)
      obtain ⟨A6, h6⟩ := al_w hs
      rw [← h6] at hs
      (try rw [← h6] at TB)
      (try rw [← h6] at RB)
      (try rw [← h6] at TK)
      simp only [← h6]
      clear h6
      refine wpAnyH_ready (rs := [6, 12]) (by kernel_rfl) (by simp) ?_
      refine AllReadyH.cons rfl (fun K' hK' => ?_) (AllReadyH.cons rfl (fun K' hK' => ?_) AllReadyH.nil)
      · refine step_app rfl _ _ 22 rfl w.heap.size 5 i0 Tryz.underlying22 hi hz0 hz1 hz2 g1 4 c1 _ rfl RB _ _ [m / 256, m % 256] rfl TB (by omega) (by simp) hs.size ?_
        intro g2 c2 u' hown' hgrow' hat' hlt'
        have D' : Below w.heap.size w u' := Below.grown hs hgrow' hs.size (by intro q hq; cases hq; exact (RB.lt _ rfl).1)
        refine hK'.out _ _ D' (fun hs => ?_)
        clear hK' K'
        try simp only [Act.put, List.setIfInBounds_toArray, List.set_cons_zero, List.set_cons_succ]
        have RC : World.ownsRow u' w.heap.size 5 1 (.slice (some ⟨g2, 0, none⟩) 6 c2) 6 (([5, z, r / 256, r % 256, m / 256, m % 256] : List Int).map (.int .u8)) := by simpa using hown'
        (try replace TK := has_grown TK hgrow' KN)
        refine wpAnyH_ready (rs := [12]) (by kernel_rfl) (by simp) ?_
        refine AllReadyH.cons rfl (fun K' hK' => ?_) AllReadyH.nil
        go_simp
        refine hK'.out _ _ (hs.alloc hs.size _) (fun hs => ?_)
        clear hK' K'
        try simp only [Act.put, List.setIfInBounds_toArray, List.set_cons_zero, List.set_cons_succ]
        have TK := al_one1 hs ⟨kb.1, by omega⟩
        (try have KN := al_neg hs RB)
        (try replace RB := al_own hs RB)
        (try replace RC := al_own hs RC)
        (try replace TB := al_hasK hs TB)
        obtain ⟨A6, h6⟩ := al_w hs
        rw [← h6] at hs
        (try rw [← h6] at TK)
        (try rw [← h6] at RB)
        (try rw [← h6] at RC)
        (try rw [← h6] at TB)
        simp only [← h6]
        clear h6
        refine wpAnyH_ready (rs := [13]) (by kernel_rfl) (by simp) ?_
        refine AllReadyH.cons rfl (fun K' hK' => ?_) AllReadyH.nil
        refine step_app rfl _ _ 22 rfl w.heap.size 5 i0 Tryz.underlying22 hi hz0 hz1 hz2 g2 6 c2 _ rfl RC _ _ [k] rfl TK (by omega) (by simp) hs.size ?_
        intro g3 c3 u' hown' hgrow' hat' hlt'
        have D' : Below w.heap.size w u' := Below.grown hs hgrow' hs.size (by intro q hq; cases hq; exact (RC.lt _ rfl).1)
        refine hK'.out _ _ D' (fun hs => ?_)
        clear hK' K'
        try simp only [Act.put, List.setIfInBounds_toArray, List.set_cons_zero, List.set_cons_succ]
        have RD : World.ownsRow u' w.heap.size 5 1 (.slice (some ⟨g3, 0, none⟩) 7 c3) 7 (([5, z, r / 256, r % 256, m / 256, m % 256, k] : List Int).map (.int .u8)) := by simpa using hown'
        refine wpAnyH_ready (rs := [14]) (by kernel_rfl) (by simp) ?_
        refine AllReadyH.cons rfl (fun K' hK' => ?_) AllReadyH.nil
        go_simp
        refine hK'.out _ _ hs (fun hs => ?_)
        clear hK' K'
        try simp only [Act.put, List.setIfInBounds_toArray, List.set_cons_zero, List.set_cons_succ]
        refine wpAnyH_done (by kernel_rfl) (NoPanic.normal ?_) _
        have DF := hs
        clear hs
        go_wp2
        go_ret
        exact FIN.out _ _ _ RD DF
      · go_simp
        refine hK'.out _ _ (hs.alloc hs.size _) (fun hs => ?_)
        clear hK' K'
        try simp only [Act.put, List.setIfInBounds_toArray, List.set_cons_zero, List.set_cons_succ]
        have TK := al_one1 hs ⟨kb.1, by omega⟩
        (try have KN := al_neg hs RB)
        (try replace RB := al_own hs RB)
        (try replace RC := al_own hs RC)
        (try replace TB := al_hasK hs TB)
        obtain ⟨A6, h6⟩ := al_w hs
        rw [← h6] at hs
        (try rw [← h6] at TK)
        (try rw [← h6] at RB)
        (try rw [← h6] at RC)
        (try rw [← h6] at TB)
        simp only [← h6]
        clear h6
        refine wpAnyH_ready (rs := [6]) (by kernel_rfl) (by simp) ?_
        refine AllReadyH.cons rfl (fun K' hK' => ?_) AllReadyH.nil
        refine step_app rfl _ _ 22 rfl w.heap.size 5 i0 Tryz.underlying22 hi hz0 hz1 hz2 g1 4 c1 _ rfl RB _ _ [m / 256, m % 256] rfl TB (by omega) (by simp) hs.size ?_
        intro g2 c2 u' hown' hgrow' hat' hlt'
        have D' : Below w.heap.size w u' := Below.grown hs hgrow' hs.size (by intro q hq; cases hq; exact (RB.lt _ rfl).1)
        refine hK'.out _ _ D' (fun hs => ?_)
        clear hK' K'
        try simp only [Act.put, List.setIfInBounds_toArray, List.set_cons_zero, List.set_cons_succ]
        have RC : World.ownsRow u' w.heap.size 5 1 (.slice (some ⟨g2, 0, none⟩) 6 c2) 6 (([5, z, r / 256, r % 256, m / 256, m % 256] : List Int).map (.int .u8)) := by simpa using hown'
        (try replace TK := has_grown TK hgrow' KN)
        refine wpAnyH_ready (rs := [13]) (by kernel_rfl) (by simp) ?_
        refine AllReadyH.cons rfl (fun K' hK' => ?_) AllReadyH.nil
        refine step_app rfl _ _ 22 rfl w.heap.size 5 i0 Tryz.underlying22 hi hz0 hz1 hz2 g2 6 c2 _ rfl RC _ _ [k] rfl TK (by omega) (by simp) hs.size ?_
        intro g3 c3 u' hown' hgrow' hat' hlt'
        have D' : Below w.heap.size w u' := Below.grown hs hgrow' hs.size (by intro q hq; cases hq; exact (RC.lt _ rfl).1)
        refine hK'.out _ _ D' (fun hs => ?_)
        clear hK' K'
        try simp only [Act.put, List.setIfInBounds_toArray, List.set_cons_zero, List.set_cons_succ]
        have RD : World.ownsRow u' w.heap.size 5 1 (.slice (some ⟨g3, 0, none⟩) 7 c3) 7 (([5, z, r / 256, r % 256, m / 256, m % 256, k] : List Int).map (.int .u8)) := by simpa using hown'
        refine wpAnyH_ready (rs := [14]) (by kernel_rfl) (by simp) ?_
        refine AllReadyH.cons rfl (fun K' hK' => ?_) AllReadyH.nil
        go_simp
        refine hK'.out _ _ hs (fun hs => ?_)
        clear hK' K'
        try simp only [Act.put, List.setIfInBounds_toArray, List.set_cons_zero, List.set_cons_succ]
        refine wpAnyH_done (by kernel_rfl) (NoPanic.normal ?_) _
        have DF := hs
        clear hs
        go_wp2
        go_ret
        exact FIN.out _ _ _ RD DF
    · go_simp
      refine hK'.out _ _ (hs.alloc hs.size _) (fun hs => ?_)
      clear hK' K'
      try simp only [Act.put, List.setIfInBounds_toArray, List.set_cons_zero, List.set_cons_succ]
      have TK := al_one1 hs ⟨kb.1, by omega⟩
      (try have KN := al_neg hs RB)
      (try replace RB := al_own hs RB)
      (try replace RC := al_own hs RC)
      (try replace TB := al_hasK hs TB)
      obtain ⟨A6, h6⟩ := al_w hs
      rw [← h6] at hs
      (try rw [← h6] at TK)
      (try rw [← h6] at RB)
      (try rw [← h6] at RC)
      (try rw [← h6] at TB)
      simp only [← h6]
      clear h6
      refine wpAnyH_ready (rs := [5]) (by kernel_rfl) (by simp) ?_
      refine AllReadyH.cons rfl (fun K' hK' => ?_) AllReadyH.nil
      have nQ := hs.size
      go_simp
      refine (l2Two_any m _ mb.1 (by omega)).mono ?_
      rintro _ ub ⟨rfl, rfl⟩
      refine hK'.out _ _ (hs.alloc hs.size _) (fun hs => ?_)
      clear hK' K'
      try simp only [Act.put, List.setIfInBounds_toArray, List.set_cons_zero, List.set_cons_succ]
      have TB := al_two2 hs ⟨Int.ediv_nonneg mb.1 (by decide), by omega⟩ ⟨by omega, by omega⟩
      replace RB := al_own hs RB
      (try replace TK := al_hasK hs TK)
      obtain ⟨A6, h6⟩ := al_w hs
      rw [← h6] at hs
      (try rw [← h6] at TB)
      (try rw [← h6] at RB)
      (try rw [← h6] at TK)
      simp only [← h6]
      clear h6
      refine wpAnyH_ready (rs := [6]) (by kernel_rfl) (by simp) ?_
      refine AllReadyH.cons rfl (fun K' hK' => ?_) AllReadyH.nil
      refine step_app rfl _ _ 22 rfl w.heap.size 5 i0 Tryz.underlying22 hi hz0 hz1 hz2 g1 4 c1 _ rfl RB _ _ [m / 256, m % 256] rfl TB (by omega) (by simp) hs.size ?_
      intro g2 c2 u' hown' hgrow' hat' hlt'
      have D' : Below w.heap.size w u' := Below.grown hs hgrow' hs.size (by intro q hq; cases hq; exact (RB.lt _ rfl).1)
      refine hK'.out _ _ D' (fun hs => ?_)
      clear hK' K'
      try simp only [Act.put, List.setIfInBounds_toArray, List.set_cons_zero, List.set_cons_succ]
      have RC : World.ownsRow u' w.heap.size 5 1 (.slice (some ⟨g2, 0, none⟩) 6 c2) 6 (([5, z, r / 256, r % 256, m / 256, m % 256] : List Int).map (.int .u8)) := by simpa using hown'
      (try replace TK := has_grown TK hgrow' KN)
      refine wpAnyH_ready (rs := [13]) (by kernel_rfl) (by simp) ?_
      refine AllReadyH.cons rfl (fun K' hK' => ?_) AllReadyH.nil
      refine step_app rfl _ _ 22 rfl w.heap.size 5 i0 Tryz.underlying22 hi hz0 hz1 hz2 g2 6 c2 _ rfl RC _ _ [k] rfl TK (by omega) (by simp) hs.size ?_
      intro g3 c3 u' hown' hgrow' hat' hlt'
      have D' : Below w.heap.size w u' := Below.grown hs hgrow' hs.size (by intro q hq; cases hq; exact (RC.lt _ rfl).1)
      refine hK'.out _ _ D' (fun hs => ?_)
      clear hK' K'
      try simp only [Act.put, List.setIfInBounds_toArray, List.set_cons_zero, List.set_cons_succ]
      have RD : World.ownsRow u' w.heap.size 5 1 (.slice (some ⟨g3, 0, none⟩) 7 c3) 7 (([5, z, r / 256, r % 256, m / 256, m % 256, k] : List Int).map (.int .u8)) := by simpa using hown'
      refine wpAnyH_ready (rs := [14]) (by kernel_rfl) (by simp) ?_
      refine AllReadyH.cons rfl (fun K' hK' => ?_) AllReadyH.nil
      go_simp
      refine hK'.out _ _ hs (fun hs => ?_)
      clear hK' K'
      try simp only [Act.put, List.setIfInBounds_toArray, List.set_cons_zero, List.set_cons_succ]
      refine wpAnyH_done (by kernel_rfl) (NoPanic.normal ?_) _
      have DF := hs
      clear hs
      go_wp2
      go_ret
      exact FIN.out _ _ _ RD DF

theorem l9Sum_any (g : Nat) (z r m k : Int) (w : World) (h : HdAt w g z r m k) (hb : hdB z r m k = true) :
    Calls Tryz.prog 52 #[.pointer (some ⟨g, 0, none⟩)] w fun e w' => e = .returned (.int .i64 (hdV z r m k)) ∧ Below w.heap.size w w' := by
  have PK := l9Pack_any g z r m k w h hb
  have WF : Hid (∀ n ∈ hdL z r m k, (Lit.int .u8 n).wf = true) := hdL_wf hb
  have HV : Hid (hdV z r m k = sumL (hdL z r m k)) := rfl
  have L7 : (hdL z r m k).length ≤ 7 := Nat.le_of_eq (hdL_len z r m k)
  generalize hdL z r m k = zs at *
  generalize hdV z r m k = hv at *
  clear h hb
  go_enter Tryz.func52, Tryz.ntmps52
  go_wp2_with fail
  refine PK.mono ?_
  rintro e u1 ⟨a1, c1, rfl, O1, hb1⟩
  have H1 := has_of_own O1 WF.out
  clear O1
  go_wp2_with fail
  refine (l2Sum_any a1 c1 zs u1 H1 (by omega)).mono ?_
  rintro e u ⟨rfl, hu⟩; have hu2 := hu.symm; subst hu2; clear hu
  go_wp2
  go_ret
  exact ⟨ret_int HV.out.symm, hb1⟩

set_option maxHeartbeats 1000000 in
theorem specPackHead_any (z r m k : Int) (w : World) :
    Calls Tryz.prog 13 #[.agg #[.int .i64 z, .int .i64 r, .int .i64 m, .int .i64 k]] w fun e w' => ∃ a' c', e = .returned (.agg #[.int .i64 (hdF z r m k), .slice a' (hdP z r m k).length c']) ∧ World.ownsRow w' w.heap.size 5 1 (.slice a' (hdP z r m k).length c') (hdP z r m k).length ((hdP z r m k).map (.int .u8)) ∧ Below w.heap.size w w' := by
  obtain ⟨E, hE⟩ : ∃ E, E = (w.alloc (.cells #[.int .i64 z, .int .i64 r, .int .i64 m, .int .i64 k] 26)).alloc (.cells #[.int .i64 0, .slice none 0 0] 32) := ⟨_, rfl⟩
  have BE : Below w.heap.size w E := by rw [hE]; exact ((Below.refl _ _).alloc (Nat.le_refl _) _).alloc (by simp) _
  have R1 : Blk E w.heap.size #[.int .i64 z, .int .i64 r, .int .i64 m, .int .i64 k] 26 := by rw [hE]; exact (Blk.new _ _ _).below ((Below.refl _ _).alloc (Nat.le_refl _) _) (Blk.new _ _ _).lt
  have R2 : Blk E (w.heap.size + 1) #[.int .i64 0, .slice none 0 0] 32 := by
    have := Blk.new (w.alloc (.cells #[.int .i64 z, .int .i64 r, .int .i64 m, .int .i64 k] 26)) #[.int .i64 0, .slice none 0 0] 32
    rw [World.size_alloc] at this
    rw [hE]; exact this
  have HA := HdAt.of_blk R1
  have LF := l9Fault_any w.heap.size z r m k E HA
  by_cases hb : hdB z r m k = true
  · have e1 : hdF z r m k = 0 := by unfold hdF; rw [if_pos hb]
    have e2 : hdP z r m k = hdL z r m k := by unfold hdP; rw [if_pos hb]
    have PK := l9Pack_any w.heap.size z r m k E HA hb
    rw [e1] at LF
    rw [e1, e2]
    generalize hdL z r m k = zs at *
    clear HA R1 e1 e2 hb
    go_enter Tryz.func13, Tryz.ntmps13
    go_wp2_with fail
    simp only [← hE]
    clear hE
    refine LF.mono ?_
    rintro e u ⟨rfl, hu⟩; have hu2 := hu.symm; subst hu2; clear hu
    go_wp2_with fail
    refine PK.mono ?_
    rintro e u1 ⟨a1, c1, rfl, O1, hb1⟩
    have R3 := R2.below hb1 R2.lt
    have k0 : u1.cell? ⟨w.heap.size + 1, 0, none⟩ = some (.int .i64 0) := (R3.cell 0).trans rfl
    have k1 : u1.cell? ⟨w.heap.size + 1, 1, none⟩ = some (.slice none 0 0) := (R3.cell 1).trans rfl
    have f0 := R3.frozen 0
    have f1 := R3.frozen 1
    have r2 := R2.lt
    have r3 := R3.lt
    have OH : Hid (World.ownsRow u1 E.heap.size 5 1 (.slice a1 zs.length c1) zs.length (zs.map (.int .u8))) := O1
    have B1 := BE.trans (hb1.mono BE.size)
    clear O1 R2 R3 LF PK hb1
    go_wp2
    refine bodyPost_ret (v := .agg #[.int .i64 0, .slice a1 zs.length c1]) (by simp [results, Tryz.results13, go_sem, k0, k1]) rfl ⟨a1, c1, rfl, ?_, ?_⟩
    · exact own_mono (own_set (own_set OH.out r2 _) r2 _) BE.size
    · exact (B1.setCell (by simp) _).setCell (by simp) _
  · have e1 : hdF z r m k = 3 := by unfold hdF; rw [if_neg hb]
    have e2 : hdP z r m k = [] := by unfold hdP; rw [if_neg hb]
    rw [e1] at LF
    rw [e1, e2]
    have k0 : E.cell? ⟨w.heap.size + 1, 0, none⟩ = some (.int .i64 0) := (R2.cell 0).trans rfl
    have k1 : E.cell? ⟨w.heap.size + 1, 1, none⟩ = some (.slice none 0 0) := (R2.cell 1).trans rfl
    have f0 := R2.frozen 0
    have f1 := R2.frozen 1
    have r2 := R2.lt
    clear HA R1 e1 e2 hb R2
    go_enter Tryz.func13, Tryz.ntmps13
    go_wp2_with fail
    simp only [← hE]
    clear hE
    refine LF.mono ?_
    rintro e u ⟨rfl, hu⟩; have hu2 := hu.symm; subst hu2; clear hu
    go_wp2
    refine bodyPost_ret (v := .agg #[.int .i64 3, .slice none 0 0]) (by simp [results, Tryz.results13, go_sem, k0, k1]) rfl ⟨none, 0, rfl, World.ownsRow_nil _ _ _ _, ?_⟩
    exact (BE.setCell (by simp) _).setCell (by simp) _

end Go.Proofs.YtffidkoejlebeaaGreatDoor
