/- Contracts: the program's bytes of a head, and their sum. -/
import Derived.Test.YtffidkoejlebeaaGreatDoorIHd
import Derived.Test.YtffidkoejlebeaaGreatDoorHdP
import Derived.Test.YtffidkoejlebeaaGreatDoorHdD
import Derived.Test.YtffidkoejlebeaaGreatDoorRegB
import Derived.Deep.DeepCutAuto
namespace Go.Proofs.YtffidkoejlebeaaGreatDoor
open Go.ChangeShapes Go.WideShapes Go.ChangeAt Go.RowKit
set_option maxRecDepth 100000
set_option linter.unusedVariables false
set_option linter.unusedSimpArgs false

/-- An object made, seen behind a block that is kept. -/
theorem al_blkS {Y : World} {p : Nat} {cs cs' : Array Value} {T T' : Nat} (h : Blk (Y.alloc (.cells cs T)) p cs' T') : Blk (Y.alloc (.cells cs T)) Y.heap.size cs T := Blk.new _ _ _
theorem al_D {n p : Nat} {X Y : World} {O : Obj} {cs : Array Value} {T : Nat} (h : Blk (Y.alloc O) p cs T) (D : Below n X Y) (hn : n ≤ X.heap.size) : Below n X (Y.alloc O) := D.alloc (Nat.le_trans hn D.size) O
theorem al_one1S {p : Nat} {Y : World} {a : Int} {cs : Array Value} {T : Nat} (h : Blk (Y.alloc (.cells #[.int .u8 a] 5)) p cs T) (ha : 0 ≤ a ∧ a ≤ 255) : Has (Y.alloc (.cells #[.int .u8 a] 5)) .u8 (some ⟨Y.heap.size, 0, none⟩) [a].length [a] := al_one1 ((Below.refl Y.heap.size Y).alloc (Nat.le_refl _) _) ha
theorem al_two2S {p : Nat} {Y : World} {a b : Int} {cs : Array Value} {T : Nat} (h : Blk (Y.alloc (.cells #[.int .u8 a, .int .u8 b] 5)) p cs T) (ha : 0 ≤ a ∧ a ≤ 255) (hb : 0 ≤ b ∧ b ≤ 255) : Has (Y.alloc (.cells #[.int .u8 a, .int .u8 b] 5)) .u8 (some ⟨Y.heap.size, 0, none⟩) [a, b].length [a, b] := al_two2 ((Below.refl Y.heap.size Y).alloc (Nat.le_refl _) _) ha hb
theorem al_hasS {k p : Nat} {Y : World} {O : Obj} {K : IntKind} {a : Option Addr} {zs : List Int} {cs : Array Value} {T : Nat} (h : Blk (Y.alloc O) p cs T) (P : Has Y K a k zs) : Has (Y.alloc O) K a k zs := P.alloc O
theorem abs_wS {Y : World} {p : Nat} {cs : Array Value} {T : Nat} (h : Blk Y p cs T) : ∃ Z, Z = Y := ⟨_, rfl⟩

set_option maxHeartbeats 1000000 in
theorem headPiece_any (z r m k : Int) (pz pr pm pk g T : Nat) (w : World) (hT : Tab w) (G : Blk w g #[.slice (some ⟨pz, 0, none⟩) 1 1, .slice (some ⟨pr, 0, none⟩) 2 2, .slice (some ⟨pm, 0, none⟩) 2 2, .slice (some ⟨pk, 0, none⟩) 1 1] T) (HZ : Has w .u8 (some ⟨pz, 0, none⟩) [z].length [z]) (HR : Has w .u8 (some ⟨pr, 0, none⟩) [r / 256, r % 256].length [r / 256, r % 256]) (HM : Has w .u8 (some ⟨pm, 0, none⟩) [m / 256, m % 256].length [m / 256, m % 256]) (HK : Has w .u8 (some ⟨pk, 0, none⟩) [k].length [k]) :
    Calls Tryz.prog 37 #[.int .i64 5, .slice (some ⟨g, 0, none⟩) 4 4] w fun e w' => ∃ a' c', e = .returned (.slice a' (hdL z r m k).length c') ∧ World.ownsRow w' w.heap.size 5 1 (.slice a' (hdL z r m k).length c') (hdL z r m k).length ((hdL z r m k).map (.int .u8)) ∧ Below w.heap.size w w' := by
  have EE : pieceL 5 [(some ⟨pz, 0, none⟩, 1, [z]), (some ⟨pr, 0, none⟩, 2, [r / 256, r % 256]), (some ⟨pm, 0, none⟩, 2, [m / 256, m % 256]), (some ⟨pk, 0, none⟩, 1, [k])] = hdL z r m k := by simp [pieceL, hdL]
  have := pieceOf_any 5 (by decide) [(some ⟨pz, 0, none⟩, 1, [z]), (some ⟨pr, 0, none⟩, 2, [r / 256, r % 256]), (some ⟨pm, 0, none⟩, 2, [m / 256, m % 256]), (some ⟨pk, 0, none⟩, 1, [k])] g w hT G.lt ?hc ?hh (by simp) (by rw [EE]; simp [hdL])
  case hc =>
    intro i hi
    match i, hi with
    | 0, _ => exact (G.cell 0).trans rfl
    | 1, _ => exact (G.cell 1).trans rfl
    | 2, _ => exact (G.cell 2).trans rfl
    | 3, _ => exact (G.cell 3).trans rfl
  case hh =>
    intro i hi
    match i, hi with
    | 0, _ => exact HZ
    | 1, _ => exact HR
    | 2, _ => exact HM
    | 3, _ => exact HK
  rw [EE] at this
  exact this

set_option maxHeartbeats 8000000 in
theorem implPackHead_any (z r m k : Int) (w : World) (hT : Tab w) :
    Calls Tryz.prog 8 #[.agg #[.int .i64 z, .int .i64 r, .int .i64 m, .int .i64 k]] w fun e w' => ∃ a' c', e = .returned (.agg #[.int .i64 (hdF z r m k), .slice a' (hdP z r m k).length c']) ∧ World.ownsRow w' w.heap.size 5 1 (.slice a' (hdP z r m k).length c') (hdP z r m k).length ((hdP z r m k).map (.int .u8)) ∧ Below w.heap.size w w' := by
  obtain ⟨B, hB⟩ : ∃ B, B = w.heap.size := ⟨_, rfl⟩
  obtain ⟨E, hE⟩ : ∃ E, E = (w.alloc (.cells #[.int .i64 z, .int .i64 r, .int .i64 m, .int .i64 k] 26)).alloc (.cells #[.int .i64 0, .slice none 0 0] 32) := ⟨_, rfl⟩
  have BE : Below w.heap.size w E := by rw [hE]; exact ((Below.refl _ _).alloc (Nat.le_refl _) _).alloc (by simp) _
  have zE : E.heap.size = B + 2 := by rw [hE, hB]; simp
  have SH : Blk E B #[.int .i64 z, .int .i64 r, .int .i64 m, .int .i64 k] 26 := by rw [hE, hB]; exact (Blk.new _ _ _).below ((Below.refl _ _).alloc (Nat.le_refl _) _) (Blk.new _ _ _).lt
  have SR : Blk E (B + 1) #[.int .i64 0, .slice none 0 0] 32 := by
    have := Blk.new (w.alloc (.cells #[.int .i64 z, .int .i64 r, .int .i64 m, .int .i64 k] 26)) #[.int .i64 0, .slice none 0 0] 32
    rw [World.size_alloc] at this
    rw [hE, hB]; exact this
  have HF := hfault_any z r m k E
  have KB : Hid (w.heap.size ≤ B + 1 ∧ B + 1 < E.heap.size ∧ w.heap.size ≤ E.heap.size) := ⟨by omega, by omega, by omega⟩
  have e0 := SH.cell 0
  have e1 := SH.cell 1
  have e2 := SH.cell 2
  have e3 := SH.cell 3
  have e9 := SH.lt
  simp at e0 e1 e2 e3
  by_cases hb : hdB z r m k = true
  case neg =>
    have hf : hdF z r m k = 3 := by unfold hdF; rw [if_neg hb]
    have hp : hdP z r m k = [] := by unfold hdP; rw [if_neg hb]
    rw [hf] at HF
    rw [hf, hp]
    clear hf hp hb
    go_enter Tryz.func8, Tryz.ntmps8
    go_wp2_with fail
    simp only [← hB, ← hE]
    clear hE hB zE
    refine HF.mono ?_
    rintro e u ⟨rfl, hu⟩
    have RR := SR.below hu SR.lt
    have r0 := RR.cell 0
    have r1 := RR.cell 1
    have r9 := RR.lt
    have r2 := RR.frozen 0
    have r3 := RR.frozen 1
    simp at r0 r1
    have BU := BE.trans (hu.mono BE.size)
    go_wp2
    refine bodyPost_ret (v := .agg #[.int .i64 3, .slice none 0 0]) (by simp [results, Tryz.results8, go_sem, r0, r1]) rfl ⟨none, 0, rfl, nil_own _ _ _, ?_⟩
    repeat (first | exact BU | refine Below.setCell ?_ (by exact KB.out.1) _)
  case pos =>
    have hf : hdF z r m k = 0 := by unfold hdF; rw [if_pos hb]
    have hp : hdP z r m k = hdL z r m k := by unfold hdP; rw [if_pos hb]
    rw [hf] at HF
    rw [hf, hp]
    obtain ⟨zb, rb, mb, kb⟩ := hdB_iff.1 hb
    have zw : IntKind.u8.wrap z = z := by rw [IntKind.wrap_u8]; omega
    have kw : IntKind.u8.wrap k = k := by rw [IntKind.wrap_u8]; omega
    have HTab : Hid (∀ u : World, Below E.heap.size E u → Tab u) := fun u hu => hT.below (BE.trans (hu.mono BE.size)) (Nat.le_refl _)
    have RES : Hid (∀ u : World, Below E.heap.size E u → Blk u (B + 1) #[.int .i64 0, .slice none 0 0] 32) := fun u hu => SR.below hu SR.lt
    clear hf hp hb hT
    go_enter Tryz.func8, Tryz.ntmps8
    go_wp2_with fail
    simp only [← hB, ← hE]
    clear hE hB zE
    refine HF.mono ?_
    rintro e u ⟨rfl, hu⟩
    have SU := SH.below hu SH.lt
    clear e0 e1 e2 e3 e9 SR HF
    have D : Below E.heap.size E u.drew := hu.drew
    go_wp2_with fail
    refine wp_region_noPanic ?_
    refine wp_region_held_drew (S := fun u => Blk u B #[.int .i64 z, .int .i64 r, .int .i64 m, .int .i64 k] 26) (by kernel_rfl) (SU.below (Below.refl _ _).drew SU.lt) (fun hs => ?_)
    obtain ⟨XD, hXD⟩ := abs_wS hs
    rw [← hXD] at hs D
    simp only [← hXD]
    clear hXD
    refine take_at (i := 0) (d := some 10) (v := ?mv1) rfl rfl (by kernel_rfl) (by kernel_rfl) (by kernel_rfl) (fun _ _ _ h => h) (Or.inl ⟨by rfl, ?my1⟩) hs ?mg1
    case my1 => (intro z hSz; (have e0 := hSz.cell 0; have e1 := hSz.cell 1; have e2 := hSz.cell 2; have e3 := hSz.cell 3; simp at e0 e1 e2 e3); go_simp; (try with_reducible rfl))
    try simp only [Act.put, List.setIfInBounds_toArray, List.set_cons_zero, List.set_cons_succ]
    refine take_at (i := 1) (d := some 11) (v := ?mv2) rfl rfl (by kernel_rfl) (by kernel_rfl) (by kernel_rfl) (fun _ _ _ h => h) (Or.inl ⟨by rfl, ?my2⟩) hs ?mg2
    case my2 => (intro z hSz; (have e0 := hSz.cell 0; have e1 := hSz.cell 1; have e2 := hSz.cell 2; have e3 := hSz.cell 3; simp at e0 e1 e2 e3); go_simp; (try with_reducible rfl))
    try simp only [Act.put, List.setIfInBounds_toArray, List.set_cons_zero, List.set_cons_succ]
    refine take_at (i := 2) (d := some 12) (v := ?mv3) rfl rfl (by kernel_rfl) (by kernel_rfl) (by kernel_rfl) (fun _ _ _ h => h) (Or.inl ⟨by rfl, ?my3⟩) hs ?mg3
    case my3 => (intro z hSz; (have e0 := hSz.cell 0; have e1 := hSz.cell 1; have e2 := hSz.cell 2; have e3 := hSz.cell 3; simp at e0 e1 e2 e3); go_simp; (try with_reducible rfl))
    try simp only [Act.put, List.setIfInBounds_toArray, List.set_cons_zero, List.set_cons_succ]
    refine take_at (i := 4) (d := some 14) (v := ?mv4) rfl rfl (by kernel_rfl) (by kernel_rfl) (by kernel_rfl) (fun _ _ _ h => h) (Or.inl ⟨by rfl, ?my4⟩) hs ?mg4
    case my4 => (intro z hSz; (have e0 := hSz.cell 0; have e1 := hSz.cell 1; have e2 := hSz.cell 2; have e3 := hSz.cell 3; simp at e0 e1 e2 e3); go_simp; (try with_reducible rfl))
    try simp only [Act.put, List.setIfInBounds_toArray, List.set_cons_zero, List.set_cons_succ]
    refine take_at (i := 5) (d := some 15) (v := ?mv5) rfl rfl (by kernel_rfl) (by kernel_rfl) (by kernel_rfl) (fun _ _ _ h => h) (Or.inl ⟨by rfl, ?my5⟩) hs ?mg5
    case my5 => (intro z hSz; (have e0 := hSz.cell 0; have e1 := hSz.cell 1; have e2 := hSz.cell 2; have e3 := hSz.cell 3; simp at e0 e1 e2 e3); go_simp; (try with_reducible rfl))
    try simp only [Act.put, List.setIfInBounds_toArray, List.set_cons_zero, List.set_cons_succ]
    refine take_at (i := 7) (d := some 17) (v := ?mv6) rfl rfl (by kernel_rfl) (by kernel_rfl) (by kernel_rfl) (fun _ _ _ h => h) (Or.inl ⟨by rfl, ?my6⟩) hs ?mg6
    case my6 => (intro z hSz; (have e0 := hSz.cell 0; have e1 := hSz.cell 1; have e2 := hSz.cell 2; have e3 := hSz.cell 3; simp at e0 e1 e2 e3); go_simp; (try with_reducible rfl))
    try simp only [Act.put, List.setIfInBounds_toArray, List.set_cons_zero, List.set_cons_succ]
    refine take_at (i := 8) (d := some 18) (v := ?mv7) rfl rfl (by kernel_rfl) (by kernel_rfl) (by kernel_rfl) (fun _ _ _ h => h) (Or.inl ⟨by rfl, ?my7⟩) hs ?mg7
    case my7 => (intro z hSz; (have e0 := hSz.cell 0; have e1 := hSz.cell 1; have e2 := hSz.cell 2; have e3 := hSz.cell 3; simp at e0 e1 e2 e3); go_simp; (try with_reducible rfl))
    try simp only [Act.put, List.setIfInBounds_toArray, List.set_cons_zero, List.set_cons_succ]
    refine take_at (i := 10) (d := some 20) (v := ?mv8) rfl rfl (by kernel_rfl) (by kernel_rfl) (by kernel_rfl) (fun _ _ _ h => h) (Or.inl ⟨by rfl, ?my8⟩) hs ?mg8
    case my8 => (intro z hSz; (have e0 := hSz.cell 0; have e1 := hSz.cell 1; have e2 := hSz.cell 2; have e3 := hSz.cell 3; simp at e0 e1 e2 e3); go_simp; (try with_reducible rfl))
    try simp only [Act.put, List.setIfInBounds_toArray, List.set_cons_zero, List.set_cons_succ]
    refine take_at (i := 11) (d := some 21) (v := ?mv9) rfl rfl (by kernel_rfl) (by kernel_rfl) (by kernel_rfl) (fun _ _ _ h => h) (Or.inl ⟨by rfl, ?my9⟩) hs ?mg9
    case my9 => (intro z hSz; (have e0 := hSz.cell 0; have e1 := hSz.cell 1; have e2 := hSz.cell 2; have e3 := hSz.cell 3; simp at e0 e1 e2 e3); go_simp; (try with_reducible rfl))
    try simp only [Act.put, List.setIfInBounds_toArray, List.set_cons_zero, List.set_cons_succ]
    refine take_at (i := 12) (d := some 22) (v := ?mv10) rfl rfl (by kernel_rfl) (by kernel_rfl) (by kernel_rfl) (fun _ _ _ h => h) (Or.inl ⟨by rfl, ?my10⟩) hs ?mg10
    case my10 => (intro z hSz; (have e0 := hSz.cell 0; have e1 := hSz.cell 1; have e2 := hSz.cell 2; have e3 := hSz.cell 3; simp at e0 e1 e2 e3); go_simp; (try with_reducible rfl))
    try simp only [Act.put, List.setIfInBounds_toArray, List.set_cons_zero, List.set_cons_succ]
    refine wpAnyH_ready (rs := [3, 6, 13]) (by kernel_rfl) (by simp) ?_
    refine AllReadyH.cons rfl (fun K' hK' => ?_) (AllReadyH.cons rfl (fun K' hK' => ?_) (AllReadyH.cons rfl (fun K' hK' => ?_) AllReadyH.nil))
    · go_simp
      (try rw [zw])
      refine hK'.out _ _ (hs.below ((Below.refl _ _).alloc (Nat.le_refl _) _) hs.lt) (fun hs => ?_)
      clear hK' K'
      try simp only [Act.put, List.setIfInBounds_toArray, List.set_cons_zero, List.set_cons_succ]
      replace D := al_D hs D (Nat.le_refl _)
      have TZ := al_one1S hs ⟨zb.1, by omega⟩
      (try replace TR := al_hasS hs TR)
      (try replace TM := al_hasS hs TM)
      (try replace TK := al_hasS hs TK)
      obtain ⟨A6, h6⟩ := abs_wS hs
      rw [← h6] at hs D
      (try rw [← h6] at TZ)
      (try rw [← h6] at TR)
      (try rw [← h6] at TM)
      (try rw [← h6] at TK)
      simp only [← h6]
      clear h6
      refine wpAnyH_ready (rs := [6, 13]) (by kernel_rfl) (by simp) ?_
      refine AllReadyH.cons rfl (fun K' hK' => ?_) (AllReadyH.cons rfl (fun K' hK' => ?_) AllReadyH.nil)
      · go_simp
        refine (twoBytes_any r _ rb.1 (by omega)).mono ?_
        rintro _ ub ⟨rfl, rfl⟩
        refine hK'.out _ _ (hs.below ((Below.refl _ _).alloc (Nat.le_refl _) _) hs.lt) (fun hs => ?_)
        clear hK' K'
        try simp only [Act.put, List.setIfInBounds_toArray, List.set_cons_zero, List.set_cons_succ]
        replace D := al_D hs D (Nat.le_refl _)
        have TR := al_two2S hs ⟨Int.ediv_nonneg rb.1 (by decide), by omega⟩ ⟨by omega, by omega⟩
        (try replace TZ := al_hasS hs TZ)
        (try replace TM := al_hasS hs TM)
        (try replace TK := al_hasS hs TK)
        obtain ⟨A6, h6⟩ := abs_wS hs
        rw [← h6] at hs D
        (try rw [← h6] at TR)
        (try rw [← h6] at TZ)
        (try rw [← h6] at TM)
        (try rw [← h6] at TK)
        simp only [← h6]
        clear h6
        refine wpAnyH_ready (rs := [9, 13]) (by kernel_rfl) (by simp) ?_
        refine AllReadyH.cons rfl (fun K' hK' => ?_) (AllReadyH.cons rfl (fun K' hK' => ?_) AllReadyH.nil)
        · go_simp
          refine (twoBytes_any m _ mb.1 (by omega)).mono ?_
          rintro _ ub ⟨rfl, rfl⟩
          refine hK'.out _ _ (hs.below ((Below.refl _ _).alloc (Nat.le_refl _) _) hs.lt) (fun hs => ?_)
          clear hK' K'
          try simp only [Act.put, List.setIfInBounds_toArray, List.set_cons_zero, List.set_cons_succ]
          replace D := al_D hs D (Nat.le_refl _)
          have TM := al_two2S hs ⟨Int.ediv_nonneg mb.1 (by decide), by omega⟩ ⟨by omega, by omega⟩
          (try replace TZ := al_hasS hs TZ)
          (try replace TR := al_hasS hs TR)
          (try replace TK := al_hasS hs TK)
          obtain ⟨A6, h6⟩ := abs_wS hs
          rw [← h6] at hs D
          (try rw [← h6] at TM)
          (try rw [← h6] at TZ)
          (try rw [← h6] at TR)
          (try rw [← h6] at TK)
          simp only [← h6]
          clear h6
          refine wpAnyH_ready (rs := [13]) (by kernel_rfl) (by simp) ?_
          refine AllReadyH.cons rfl (fun K' hK' => ?_) AllReadyH.nil
          go_simp
          (try rw [kw])
          refine hK'.out _ _ (hs.below ((Below.refl _ _).alloc (Nat.le_refl _) _) hs.lt) (fun hs => ?_)
          clear hK' K'
          try simp only [Act.put, List.setIfInBounds_toArray, List.set_cons_zero, List.set_cons_succ]
          replace D := al_D hs D (Nat.le_refl _)
          have TK := al_one1S hs ⟨kb.1, by omega⟩
          (try replace TZ := al_hasS hs TZ)
          (try replace TR := al_hasS hs TR)
          (try replace TM := al_hasS hs TM)
          obtain ⟨A6, h6⟩ := abs_wS hs
          rw [← h6] at hs D
          (try rw [← h6] at TK)
          (try rw [← h6] at TZ)
          (try rw [← h6] at TR)
          (try rw [← h6] at TM)
          simp only [← h6]
          clear h6
          refine wpAnyH_ready (rs := [14]) (by kernel_rfl) (by simp) ?_
          refine AllReadyH.cons rfl (fun K' hK' => ?_) AllReadyH.nil
          go_simp
          refine hK'.out _ _ (hs.below ((Below.refl _ _).alloc (Nat.le_refl _) _) hs.lt) (fun hs => ?_)
          clear hK' K'
          try simp only [Act.put, List.setIfInBounds_toArray, List.set_cons_zero, List.set_cons_succ]
          replace D := al_D hs D (Nat.le_refl _)
          have TG := al_blkS hs
          (try replace TZ := al_hasS hs TZ)
          (try replace TR := al_hasS hs TR)
          (try replace TM := al_hasS hs TM)
          (try replace TK := al_hasS hs TK)
          obtain ⟨A6, h6⟩ := abs_wS hs
          rw [← h6] at hs D
          (try rw [← h6] at TG)
          (try rw [← h6] at TZ)
          (try rw [← h6] at TR)
          (try rw [← h6] at TM)
          (try rw [← h6] at TK)
          simp only [← h6]
          clear h6
          refine wpAnyH_ready (rs := [15]) (by kernel_rfl) (by simp) ?_
          refine AllReadyH.cons rfl (fun K' hK' => ?_) AllReadyH.nil
          go_simp
          refine (headPiece_any z r m k _ _ _ _ _ _ _ (HTab.out _ D) TG TZ TR TM TK).mono ?_
          rintro _ uq ⟨a1, c1, rfl, O1, hb1⟩
          refine hK'.out _ _ (hs.below hb1 hs.lt) (fun hs => ?_)
          clear hK' K'
          try simp only [Act.put, List.setIfInBounds_toArray, List.set_cons_zero, List.set_cons_succ]
          have OB := own_mono O1 (Nat.le_trans KB.out.2.2 D.size)
          have OL := fun g e => (O1.lt g e).1
          have DZ := D.size
          replace D := D.trans (hb1.mono D.size)
          clear TG TZ TR TM TK O1 hb1
          refine take_at (i := 16) (d := some 26) (v := ?mv11) rfl rfl (by kernel_rfl) (by kernel_rfl) (by kernel_rfl) (fun _ _ _ h => h) (Or.inl ⟨by rfl, ?my11⟩) hs ?mg11
          case my11 => (intro z hSz; (have e0 := hSz.cell 0; have e1 := hSz.cell 1; have e2 := hSz.cell 2; have e3 := hSz.cell 3; simp at e0 e1 e2 e3); go_simp; (try with_reducible rfl))
          try simp only [Act.put, List.setIfInBounds_toArray, List.set_cons_zero, List.set_cons_succ]
          refine wpAnyH_ready (rs := [17]) (by kernel_rfl) (by simp) ?_
          refine AllReadyH.cons rfl (fun K' hK' => ?_) AllReadyH.nil
          have RB := RES.out _ D
          obtain ⟨D2, RB2, F2⟩ := al_two (x := .int .i64 0) (y := .slice a1 (hdL z r m k).length c1) (BE.trans (D.mono BE.size)) RB KB.out.1
          have c0 := RB.cell 0
          have c1' := RB.cell 1
          have c2 := RB.frozen 0
          have c3 := RB.frozen 1
          simp at c0 c1'
          go_simp
          refine hK'.out _ _ (hs.fr F2 (by omega)) (fun hs => ?_)
          clear hK' K'
          try simp only [Act.put, List.setIfInBounds_toArray, List.set_cons_zero, List.set_cons_succ]
          refine wpAnyH_done (by kernel_rfl) (NoPanic.normal ?_) _
          have OF := own_fr OB F2 (fun g e1 e2 => by have := OL g e1; have := KB.out.2.1; omega)
          clear OB OL RB c0 c1' c2 c3 hs D SU F2
          obtain ⟨A6, h6⟩ := abs_wS RB2
          rw [← h6] at RB2 D2 OF
          simp only [← h6]
          clear h6
          have r0 := RB2.cell 0
          have r1 := RB2.cell 1
          have r9 := RB2.lt
          simp at r0 r1
          go_wp2
          refine bodyPost_ret (v := .agg #[.int .i64 0, .slice a1 (hdL z r m k).length c1]) (by simp [results, Tryz.results8, go_sem, r0, r1]) rfl ⟨a1, c1, rfl, OF, D2⟩
        · go_simp
          (try rw [kw])
          refine hK'.out _ _ (hs.below ((Below.refl _ _).alloc (Nat.le_refl _) _) hs.lt) (fun hs => ?_)
          clear hK' K'
          try simp only [Act.put, List.setIfInBounds_toArray, List.set_cons_zero, List.set_cons_succ]
          replace D := al_D hs D (Nat.le_refl _)
          have TK := al_one1S hs ⟨kb.1, by omega⟩
          (try replace TZ := al_hasS hs TZ)
          (try replace TR := al_hasS hs TR)
          (try replace TM := al_hasS hs TM)
          obtain ⟨A6, h6⟩ := abs_wS hs
          rw [← h6] at hs D
          (try rw [← h6] at TK)
          (try rw [← h6] at TZ)
          (try rw [← h6] at TR)
          (try rw [← h6] at TM)
          simp only [← h6]
          clear h6
          refine wpAnyH_ready (rs := [9]) (by kernel_rfl) (by simp) ?_
          refine AllReadyH.cons rfl (fun K' hK' => ?_) AllReadyH.nil
          go_simp
          refine (twoBytes_any m _ mb.1 (by omega)).mono ?_
          rintro _ ub ⟨rfl, rfl⟩
          refine hK'.out _ _ (hs.below ((Below.refl _ _).alloc (Nat.le_refl _) _) hs.lt) (fun hs => ?_)
          clear hK' K'
          try simp only [Act.put, List.setIfInBounds_toArray, List.set_cons_zero, List.set_cons_succ]
          replace D := al_D hs D (Nat.le_refl _)
          have TM := al_two2S hs ⟨Int.ediv_nonneg mb.1 (by decide), by omega⟩ ⟨by omega, by omega⟩
          (try replace TZ := al_hasS hs TZ)
          (try replace TR := al_hasS hs TR)
          (try replace TK := al_hasS hs TK)
          obtain ⟨A6, h6⟩ := abs_wS hs
          rw [← h6] at hs D
          (try rw [← h6] at TM)
          (try rw [← h6] at TZ)
          (try rw [← h6] at TR)
          (try rw [← h6] at TK)
          simp only [← h6]
          clear h6
          refine wpAnyH_ready (rs := [14]) (by kernel_rfl) (by simp) ?_
          refine AllReadyH.cons rfl (fun K' hK' => ?_) AllReadyH.nil
          go_simp
          refine hK'.out _ _ (hs.below ((Below.refl _ _).alloc (Nat.le_refl _) _) hs.lt) (fun hs => ?_)
          clear hK' K'
          try simp only [Act.put, List.setIfInBounds_toArray, List.set_cons_zero, List.set_cons_succ]
          replace D := al_D hs D (Nat.le_refl _)
          have TG := al_blkS hs
          (try replace TZ := al_hasS hs TZ)
          (try replace TR := al_hasS hs TR)
          (try replace TM := al_hasS hs TM)
          (try replace TK := al_hasS hs TK)
          obtain ⟨A6, h6⟩ := abs_wS hs
          rw [← h6] at hs D
          (try rw [← h6] at TG)
          (try rw [← h6] at TZ)
          (try rw [← h6] at TR)
          (try rw [← h6] at TM)
          (try rw [← h6] at TK)
          simp only [← h6]
          clear h6
          refine wpAnyH_ready (rs := [15]) (by kernel_rfl) (by simp) ?_
          refine AllReadyH.cons rfl (fun K' hK' => ?_) AllReadyH.nil
          go_simp
          refine (headPiece_any z r m k _ _ _ _ _ _ _ (HTab.out _ D) TG TZ TR TM TK).mono ?_
          rintro _ uq ⟨a1, c1, rfl, O1, hb1⟩
          refine hK'.out _ _ (hs.below hb1 hs.lt) (fun hs => ?_)
          clear hK' K'
          try simp only [Act.put, List.setIfInBounds_toArray, List.set_cons_zero, List.set_cons_succ]
          have OB := own_mono O1 (Nat.le_trans KB.out.2.2 D.size)
          have OL := fun g e => (O1.lt g e).1
          have DZ := D.size
          replace D := D.trans (hb1.mono D.size)
          clear TG TZ TR TM TK O1 hb1
          refine take_at (i := 16) (d := some 26) (v := ?mv12) rfl rfl (by kernel_rfl) (by kernel_rfl) (by kernel_rfl) (fun _ _ _ h => h) (Or.inl ⟨by rfl, ?my12⟩) hs ?mg12
          case my12 => (intro z hSz; (have e0 := hSz.cell 0; have e1 := hSz.cell 1; have e2 := hSz.cell 2; have e3 := hSz.cell 3; simp at e0 e1 e2 e3); go_simp; (try with_reducible rfl))
          try simp only [Act.put, List.setIfInBounds_toArray, List.set_cons_zero, List.set_cons_succ]
          refine wpAnyH_ready (rs := [17]) (by kernel_rfl) (by simp) ?_
          refine AllReadyH.cons rfl (fun K' hK' => ?_) AllReadyH.nil
          have RB := RES.out _ D
          obtain ⟨D2, RB2, F2⟩ := al_two (x := .int .i64 0) (y := .slice a1 (hdL z r m k).length c1) (BE.trans (D.mono BE.size)) RB KB.out.1
          have c0 := RB.cell 0
          have c1' := RB.cell 1
          have c2 := RB.frozen 0
          have c3 := RB.frozen 1
          simp at c0 c1'
          go_simp
          refine hK'.out _ _ (hs.fr F2 (by omega)) (fun hs => ?_)
          clear hK' K'
          try simp only [Act.put, List.setIfInBounds_toArray, List.set_cons_zero, List.set_cons_succ]
          refine wpAnyH_done (by kernel_rfl) (NoPanic.normal ?_) _
          have OF := own_fr OB F2 (fun g e1 e2 => by have := OL g e1; have := KB.out.2.1; omega)
          clear OB OL RB c0 c1' c2 c3 hs D SU F2
          obtain ⟨A6, h6⟩ := abs_wS RB2
          rw [← h6] at RB2 D2 OF
          simp only [← h6]
          clear h6
          have r0 := RB2.cell 0
          have r1 := RB2.cell 1
          have r9 := RB2.lt
          simp at r0 r1
          go_wp2
          refine bodyPost_ret (v := .agg #[.int .i64 0, .slice a1 (hdL z r m k).length c1]) (by simp [results, Tryz.results8, go_sem, r0, r1]) rfl ⟨a1, c1, rfl, OF, D2⟩
      · go_simp
        (try rw [kw])
        refine hK'.out _ _ (hs.below ((Below.refl _ _).alloc (Nat.le_refl _) _) hs.lt) (fun hs => ?_)
        clear hK' K'
        try simp only [Act.put, List.setIfInBounds_toArray, List.set_cons_zero, List.set_cons_succ]
        replace D := al_D hs D (Nat.le_refl _)
        have TK := al_one1S hs ⟨kb.1, by omega⟩
        (try replace TZ := al_hasS hs TZ)
        (try replace TR := al_hasS hs TR)
        (try replace TM := al_hasS hs TM)
        obtain ⟨A6, h6⟩ := abs_wS hs
        rw [← h6] at hs D
        (try rw [← h6] at TK)
        (try rw [← h6] at TZ)
        (try rw [← h6] at TR)
        (try rw [← h6] at TM)
        simp only [← h6]
        clear h6
        refine wpAnyH_ready (rs := [6]) (by kernel_rfl) (by simp) ?_
        refine AllReadyH.cons rfl (fun K' hK' => ?_) AllReadyH.nil
        go_simp
        refine (twoBytes_any r _ rb.1 (by omega)).mono ?_
        rintro _ ub ⟨rfl, rfl⟩
        refine hK'.out _ _ (hs.below ((Below.refl _ _).alloc (Nat.le_refl _) _) hs.lt) (fun hs => ?_)
        clear hK' K'
        try simp only [Act.put, List.setIfInBounds_toArray, List.set_cons_zero, List.set_cons_succ]
        replace D := al_D hs D (Nat.le_refl _)
        have TR := al_two2S hs ⟨Int.ediv_nonneg rb.1 (by decide), by omega⟩ ⟨by omega, by omega⟩
        (try replace TZ := al_hasS hs TZ)
        (try replace TM := al_hasS hs TM)
        (try replace TK := al_hasS hs TK)
        obtain ⟨A6, h6⟩ := abs_wS hs
        rw [← h6] at hs D
        (try rw [← h6] at TR)
        (try rw [← h6] at TZ)
        (try rw [← h6] at TM)
        (try rw [← h6] at TK)
        simp only [← h6]
        clear h6
        refine wpAnyH_ready (rs := [9]) (by kernel_rfl) (by simp) ?_
        refine AllReadyH.cons rfl (fun K' hK' => ?_) AllReadyH.nil
        go_simp
        refine (twoBytes_any m _ mb.1 (by omega)).mono ?_
        rintro _ ub ⟨rfl, rfl⟩
        refine hK'.out _ _ (hs.below ((Below.refl _ _).alloc (Nat.le_refl _) _) hs.lt) (fun hs => ?_)
        clear hK' K'
        try simp only [Act.put, List.setIfInBounds_toArray, List.set_cons_zero, List.set_cons_succ]
        replace D := al_D hs D (Nat.le_refl _)
        have TM := al_two2S hs ⟨Int.ediv_nonneg mb.1 (by decide), by omega⟩ ⟨by omega, by omega⟩
        (try replace TZ := al_hasS hs TZ)
        (try replace TR := al_hasS hs TR)
        (try replace TK := al_hasS hs TK)
        obtain ⟨A6, h6⟩ := abs_wS hs
        rw [← h6] at hs D
        (try rw [← h6] at TM)
        (try rw [← h6] at TZ)
        (try rw [← h6] at TR)
        (try rw [← h6] at TK)
        simp only [← h6]
        clear h6
        refine wpAnyH_ready (rs := [14]) (by kernel_rfl) (by simp) ?_
        refine AllReadyH.cons rfl (fun K' hK' => ?_) AllReadyH.nil
        go_simp
        refine hK'.out _ _ (hs.below ((Below.refl _ _).alloc (Nat.le_refl _) _) hs.lt) (fun hs => ?_)
        clear hK' K'
        try simp only [Act.put, List.setIfInBounds_toArray, List.set_cons_zero, List.set_cons_succ]
        replace D := al_D hs D (Nat.le_refl _)
        have TG := al_blkS hs
        (try replace TZ := al_hasS hs TZ)
        (try replace TR := al_hasS hs TR)
        (try replace TM := al_hasS hs TM)
        (try replace TK := al_hasS hs TK)
        obtain ⟨A6, h6⟩ := abs_wS hs
        rw [← h6] at hs D
        (try rw [← h6] at TG)
        (try rw [← h6] at TZ)
        (try rw [← h6] at TR)
        (try rw [← h6] at TM)
        (try rw [← h6] at TK)
        simp only [← h6]
        clear h6
        refine wpAnyH_ready (rs := [15]) (by kernel_rfl) (by simp) ?_
        refine AllReadyH.cons rfl (fun K' hK' => ?_) AllReadyH.nil
        go_simp
        refine (headPiece_any z r m k _ _ _ _ _ _ _ (HTab.out _ D) TG TZ TR TM TK).mono ?_
        rintro _ uq ⟨a1, c1, rfl, O1, hb1⟩
        refine hK'.out _ _ (hs.below hb1 hs.lt) (fun hs => ?_)
        clear hK' K'
        try simp only [Act.put, List.setIfInBounds_toArray, List.set_cons_zero, List.set_cons_succ]
        have OB := own_mono O1 (Nat.le_trans KB.out.2.2 D.size)
        have OL := fun g e => (O1.lt g e).1
        have DZ := D.size
        replace D := D.trans (hb1.mono D.size)
        clear TG TZ TR TM TK O1 hb1
        refine take_at (i := 16) (d := some 26) (v := ?mv13) rfl rfl (by kernel_rfl) (by kernel_rfl) (by kernel_rfl) (fun _ _ _ h => h) (Or.inl ⟨by rfl, ?my13⟩) hs ?mg13
        case my13 => (intro z hSz; (have e0 := hSz.cell 0; have e1 := hSz.cell 1; have e2 := hSz.cell 2; have e3 := hSz.cell 3; simp at e0 e1 e2 e3); go_simp; (try with_reducible rfl))
        try simp only [Act.put, List.setIfInBounds_toArray, List.set_cons_zero, List.set_cons_succ]
        refine wpAnyH_ready (rs := [17]) (by kernel_rfl) (by simp) ?_
        refine AllReadyH.cons rfl (fun K' hK' => ?_) AllReadyH.nil
        have RB := RES.out _ D
        obtain ⟨D2, RB2, F2⟩ := al_two (x := .int .i64 0) (y := .slice a1 (hdL z r m k).length c1) (BE.trans (D.mono BE.size)) RB KB.out.1
        have c0 := RB.cell 0
        have c1' := RB.cell 1
        have c2 := RB.frozen 0
        have c3 := RB.frozen 1
        simp at c0 c1'
        go_simp
        refine hK'.out _ _ (hs.fr F2 (by omega)) (fun hs => ?_)
        clear hK' K'
        try simp only [Act.put, List.setIfInBounds_toArray, List.set_cons_zero, List.set_cons_succ]
        refine wpAnyH_done (by kernel_rfl) (NoPanic.normal ?_) _
        have OF := own_fr OB F2 (fun g e1 e2 => by have := OL g e1; have := KB.out.2.1; omega)
        clear OB OL RB c0 c1' c2 c3 hs D SU F2
        obtain ⟨A6, h6⟩ := abs_wS RB2
        rw [← h6] at RB2 D2 OF
        simp only [← h6]
        clear h6
        have r0 := RB2.cell 0
        have r1 := RB2.cell 1
        have r9 := RB2.lt
        simp at r0 r1
        go_wp2
        refine bodyPost_ret (v := .agg #[.int .i64 0, .slice a1 (hdL z r m k).length c1]) (by simp [results, Tryz.results8, go_sem, r0, r1]) rfl ⟨a1, c1, rfl, OF, D2⟩
    · go_simp
      refine (twoBytes_any r _ rb.1 (by omega)).mono ?_
      rintro _ ub ⟨rfl, rfl⟩
      refine hK'.out _ _ (hs.below ((Below.refl _ _).alloc (Nat.le_refl _) _) hs.lt) (fun hs => ?_)
      clear hK' K'
      try simp only [Act.put, List.setIfInBounds_toArray, List.set_cons_zero, List.set_cons_succ]
      replace D := al_D hs D (Nat.le_refl _)
      have TR := al_two2S hs ⟨Int.ediv_nonneg rb.1 (by decide), by omega⟩ ⟨by omega, by omega⟩
      (try replace TZ := al_hasS hs TZ)
      (try replace TM := al_hasS hs TM)
      (try replace TK := al_hasS hs TK)
      obtain ⟨A6, h6⟩ := abs_wS hs
      rw [← h6] at hs D
      (try rw [← h6] at TR)
      (try rw [← h6] at TZ)
      (try rw [← h6] at TM)
      (try rw [← h6] at TK)
      simp only [← h6]
      clear h6
      refine wpAnyH_ready (rs := [3, 9, 13]) (by kernel_rfl) (by simp) ?_
      refine AllReadyH.cons rfl (fun K' hK' => ?_) (AllReadyH.cons rfl (fun K' hK' => ?_) (AllReadyH.cons rfl (fun K' hK' => ?_) AllReadyH.nil))
      · go_simp
        (try rw [zw])
        refine hK'.out _ _ (hs.below ((Below.refl _ _).alloc (Nat.le_refl _) _) hs.lt) (fun hs => ?_)
        clear hK' K'
        try simp only [Act.put, List.setIfInBounds_toArray, List.set_cons_zero, List.set_cons_succ]
        replace D := al_D hs D (Nat.le_refl _)
        have TZ := al_one1S hs ⟨zb.1, by omega⟩
        (try replace TR := al_hasS hs TR)
        (try replace TM := al_hasS hs TM)
        (try replace TK := al_hasS hs TK)
        obtain ⟨A6, h6⟩ := abs_wS hs
        rw [← h6] at hs D
        (try rw [← h6] at TZ)
        (try rw [← h6] at TR)
        (try rw [← h6] at TM)
        (try rw [← h6] at TK)
        simp only [← h6]
        clear h6
        refine wpAnyH_ready (rs := [9, 13]) (by kernel_rfl) (by simp) ?_
        refine AllReadyH.cons rfl (fun K' hK' => ?_) (AllReadyH.cons rfl (fun K' hK' => ?_) AllReadyH.nil)
        · go_simp
          refine (twoBytes_any m _ mb.1 (by omega)).mono ?_
          rintro _ ub ⟨rfl, rfl⟩
          refine hK'.out _ _ (hs.below ((Below.refl _ _).alloc (Nat.le_refl _) _) hs.lt) (fun hs => ?_)
          clear hK' K'
          try simp only [Act.put, List.setIfInBounds_toArray, List.set_cons_zero, List.set_cons_succ]
          replace D := al_D hs D (Nat.le_refl _)
          have TM := al_two2S hs ⟨Int.ediv_nonneg mb.1 (by decide), by omega⟩ ⟨by omega, by omega⟩
          (try replace TZ := al_hasS hs TZ)
          (try replace TR := al_hasS hs TR)
          (try replace TK := al_hasS hs TK)
          obtain ⟨A6, h6⟩ := abs_wS hs
          rw [← h6] at hs D
          (try rw [← h6] at TM)
          (try rw [← h6] at TZ)
          (try rw [← h6] at TR)
          (try rw [← h6] at TK)
          simp only [← h6]
          clear h6
          refine wpAnyH_ready (rs := [13]) (by kernel_rfl) (by simp) ?_
          refine AllReadyH.cons rfl (fun K' hK' => ?_) AllReadyH.nil
          go_simp
          (try rw [kw])
          refine hK'.out _ _ (hs.below ((Below.refl _ _).alloc (Nat.le_refl _) _) hs.lt) (fun hs => ?_)
          clear hK' K'
          try simp only [Act.put, List.setIfInBounds_toArray, List.set_cons_zero, List.set_cons_succ]
          replace D := al_D hs D (Nat.le_refl _)
          have TK := al_one1S hs ⟨kb.1, by omega⟩
          (try replace TZ := al_hasS hs TZ)
          (try replace TR := al_hasS hs TR)
          (try replace TM := al_hasS hs TM)
          obtain ⟨A6, h6⟩ := abs_wS hs
          rw [← h6] at hs D
          (try rw [← h6] at TK)
          (try rw [← h6] at TZ)
          (try rw [← h6] at TR)
          (try rw [← h6] at TM)
          simp only [← h6]
          clear h6
          refine wpAnyH_ready (rs := [14]) (by kernel_rfl) (by simp) ?_
          refine AllReadyH.cons rfl (fun K' hK' => ?_) AllReadyH.nil
          go_simp
          refine hK'.out _ _ (hs.below ((Below.refl _ _).alloc (Nat.le_refl _) _) hs.lt) (fun hs => ?_)
          clear hK' K'
          try simp only [Act.put, List.setIfInBounds_toArray, List.set_cons_zero, List.set_cons_succ]
          replace D := al_D hs D (Nat.le_refl _)
          have TG := al_blkS hs
          (try replace TZ := al_hasS hs TZ)
          (try replace TR := al_hasS hs TR)
          (try replace TM := al_hasS hs TM)
          (try replace TK := al_hasS hs TK)
          obtain ⟨A6, h6⟩ := abs_wS hs
          rw [← h6] at hs D
          (try rw [← h6] at TG)
          (try rw [← h6] at TZ)
          (try rw [← h6] at TR)
          (try rw [← h6] at TM)
          (try rw [← h6] at TK)
          simp only [← h6]
          clear h6
          refine wpAnyH_ready (rs := [15]) (by kernel_rfl) (by simp) ?_
          refine AllReadyH.cons rfl (fun K' hK' => ?_) AllReadyH.nil
          go_simp
          refine (headPiece_any z r m k _ _ _ _ _ _ _ (HTab.out _ D) TG TZ TR TM TK).mono ?_
          rintro _ uq ⟨a1, c1, rfl, O1, hb1⟩
          refine hK'.out _ _ (hs.below hb1 hs.lt) (fun hs => ?_)
          clear hK' K'
          try simp only [Act.put, List.setIfInBounds_toArray, List.set_cons_zero, List.set_cons_succ]
          have OB := own_mono O1 (Nat.le_trans KB.out.2.2 D.size)
          have OL := fun g e => (O1.lt g e).1
          have DZ := D.size
          replace D := D.trans (hb1.mono D.size)
          clear TG TZ TR TM TK O1 hb1
          refine take_at (i := 16) (d := some 26) (v := ?mv14) rfl rfl (by kernel_rfl) (by kernel_rfl) (by kernel_rfl) (fun _ _ _ h => h) (Or.inl ⟨by rfl, ?my14⟩) hs ?mg14
          case my14 => (intro z hSz; (have e0 := hSz.cell 0; have e1 := hSz.cell 1; have e2 := hSz.cell 2; have e3 := hSz.cell 3; simp at e0 e1 e2 e3); go_simp; (try with_reducible rfl))
          try simp only [Act.put, List.setIfInBounds_toArray, List.set_cons_zero, List.set_cons_succ]
          refine wpAnyH_ready (rs := [17]) (by kernel_rfl) (by simp) ?_
          refine AllReadyH.cons rfl (fun K' hK' => ?_) AllReadyH.nil
          have RB := RES.out _ D
          obtain ⟨D2, RB2, F2⟩ := al_two (x := .int .i64 0) (y := .slice a1 (hdL z r m k).length c1) (BE.trans (D.mono BE.size)) RB KB.out.1
          have c0 := RB.cell 0
          have c1' := RB.cell 1
          have c2 := RB.frozen 0
          have c3 := RB.frozen 1
          simp at c0 c1'
          go_simp
          refine hK'.out _ _ (hs.fr F2 (by omega)) (fun hs => ?_)
          clear hK' K'
          try simp only [Act.put, List.setIfInBounds_toArray, List.set_cons_zero, List.set_cons_succ]
          refine wpAnyH_done (by kernel_rfl) (NoPanic.normal ?_) _
          have OF := own_fr OB F2 (fun g e1 e2 => by have := OL g e1; have := KB.out.2.1; omega)
          clear OB OL RB c0 c1' c2 c3 hs D SU F2
          obtain ⟨A6, h6⟩ := abs_wS RB2
          rw [← h6] at RB2 D2 OF
          simp only [← h6]
          clear h6
          have r0 := RB2.cell 0
          have r1 := RB2.cell 1
          have r9 := RB2.lt
          simp at r0 r1
          go_wp2
          refine bodyPost_ret (v := .agg #[.int .i64 0, .slice a1 (hdL z r m k).length c1]) (by simp [results, Tryz.results8, go_sem, r0, r1]) rfl ⟨a1, c1, rfl, OF, D2⟩
        · go_simp
          (try rw [kw])
          refine hK'.out _ _ (hs.below ((Below.refl _ _).alloc (Nat.le_refl _) _) hs.lt) (fun hs => ?_)
          clear hK' K'
          try simp only [Act.put, List.setIfInBounds_toArray, List.set_cons_zero, List.set_cons_succ]
          replace D := al_D hs D (Nat.le_refl _)
          have TK := al_one1S hs ⟨kb.1, by omega⟩
          (try replace TZ := al_hasS hs TZ)
          (try replace TR := al_hasS hs TR)
          (try replace TM := al_hasS hs TM)
          obtain ⟨A6, h6⟩ := abs_wS hs
          rw [← h6] at hs D
          (try rw [← h6] at TK)
          (try rw [← h6] at TZ)
          (try rw [← h6] at TR)
          (try rw [← h6] at TM)
          simp only [← h6]
          clear h6
          refine wpAnyH_ready (rs := [9]) (by kernel_rfl) (by simp) ?_
          refine AllReadyH.cons rfl (fun K' hK' => ?_) AllReadyH.nil
          go_simp
          refine (twoBytes_any m _ mb.1 (by omega)).mono ?_
          rintro _ ub ⟨rfl, rfl⟩
          refine hK'.out _ _ (hs.below ((Below.refl _ _).alloc (Nat.le_refl _) _) hs.lt) (fun hs => ?_)
          clear hK' K'
          try simp only [Act.put, List.setIfInBounds_toArray, List.set_cons_zero, List.set_cons_succ]
          replace D := al_D hs D (Nat.le_refl _)
          have TM := al_two2S hs ⟨Int.ediv_nonneg mb.1 (by decide), by omega⟩ ⟨by omega, by omega⟩
          (try replace TZ := al_hasS hs TZ)
          (try replace TR := al_hasS hs TR)
          (try replace TK := al_hasS hs TK)
          obtain ⟨A6, h6⟩ := abs_wS hs
          rw [← h6] at hs D
          (try rw [← h6] at TM)
          (try rw [← h6] at TZ)
          (try rw [← h6] at TR)
          (try rw [← h6] at TK)
          simp only [← h6]
          clear h6
          refine wpAnyH_ready (rs := [14]) (by kernel_rfl) (by simp) ?_
          refine AllReadyH.cons rfl (fun K' hK' => ?_) AllReadyH.nil
          go_simp
          refine hK'.out _ _ (hs.below ((Below.refl _ _).alloc (Nat.le_refl _) _) hs.lt) (fun hs => ?_)
          clear hK' K'
          try simp only [Act.put, List.setIfInBounds_toArray, List.set_cons_zero, List.set_cons_succ]
          replace D := al_D hs D (Nat.le_refl _)
          have TG := al_blkS hs
          (try replace TZ := al_hasS hs TZ)
          (try replace TR := al_hasS hs TR)
          (try replace TM := al_hasS hs TM)
          (try replace TK := al_hasS hs TK)
          obtain ⟨A6, h6⟩ := abs_wS hs
          rw [← h6] at hs D
          (try rw [← h6] at TG)
          (try rw [← h6] at TZ)
          (try rw [← h6] at TR)
          (try rw [← h6] at TM)
          (try rw [← h6] at TK)
          simp only [← h6]
          clear h6
          refine wpAnyH_ready (rs := [15]) (by kernel_rfl) (by simp) ?_
          refine AllReadyH.cons rfl (fun K' hK' => ?_) AllReadyH.nil
          go_simp
          refine (headPiece_any z r m k _ _ _ _ _ _ _ (HTab.out _ D) TG TZ TR TM TK).mono ?_
          rintro _ uq ⟨a1, c1, rfl, O1, hb1⟩
          refine hK'.out _ _ (hs.below hb1 hs.lt) (fun hs => ?_)
          clear hK' K'
          try simp only [Act.put, List.setIfInBounds_toArray, List.set_cons_zero, List.set_cons_succ]
          have OB := own_mono O1 (Nat.le_trans KB.out.2.2 D.size)
          have OL := fun g e => (O1.lt g e).1
          have DZ := D.size
          replace D := D.trans (hb1.mono D.size)
          clear TG TZ TR TM TK O1 hb1
          refine take_at (i := 16) (d := some 26) (v := ?mv15) rfl rfl (by kernel_rfl) (by kernel_rfl) (by kernel_rfl) (fun _ _ _ h => h) (Or.inl ⟨by rfl, ?my15⟩) hs ?mg15
          case my15 => (intro z hSz; (have e0 := hSz.cell 0; have e1 := hSz.cell 1; have e2 := hSz.cell 2; have e3 := hSz.cell 3; simp at e0 e1 e2 e3); go_simp; (try with_reducible rfl))
          try simp only [Act.put, List.setIfInBounds_toArray, List.set_cons_zero, List.set_cons_succ]
          refine wpAnyH_ready (rs := [17]) (by kernel_rfl) (by simp) ?_
          refine AllReadyH.cons rfl (fun K' hK' => ?_) AllReadyH.nil
          have RB := RES.out _ D
          obtain ⟨D2, RB2, F2⟩ := al_two (x := .int .i64 0) (y := .slice a1 (hdL z r m k).length c1) (BE.trans (D.mono BE.size)) RB KB.out.1
          have c0 := RB.cell 0
          have c1' := RB.cell 1
          have c2 := RB.frozen 0
          have c3 := RB.frozen 1
          simp at c0 c1'
          go_simp
          refine hK'.out _ _ (hs.fr F2 (by omega)) (fun hs => ?_)
          clear hK' K'
          try simp only [Act.put, List.setIfInBounds_toArray, List.set_cons_zero, List.set_cons_succ]
          refine wpAnyH_done (by kernel_rfl) (NoPanic.normal ?_) _
          have OF := own_fr OB F2 (fun g e1 e2 => by have := OL g e1; have := KB.out.2.1; omega)
          clear OB OL RB c0 c1' c2 c3 hs D SU F2
          obtain ⟨A6, h6⟩ := abs_wS RB2
          rw [← h6] at RB2 D2 OF
          simp only [← h6]
          clear h6
          have r0 := RB2.cell 0
          have r1 := RB2.cell 1
          have r9 := RB2.lt
          simp at r0 r1
          go_wp2
          refine bodyPost_ret (v := .agg #[.int .i64 0, .slice a1 (hdL z r m k).length c1]) (by simp [results, Tryz.results8, go_sem, r0, r1]) rfl ⟨a1, c1, rfl, OF, D2⟩
      · go_simp
        refine (twoBytes_any m _ mb.1 (by omega)).mono ?_
        rintro _ ub ⟨rfl, rfl⟩
        refine hK'.out _ _ (hs.below ((Below.refl _ _).alloc (Nat.le_refl _) _) hs.lt) (fun hs => ?_)
        clear hK' K'
        try simp only [Act.put, List.setIfInBounds_toArray, List.set_cons_zero, List.set_cons_succ]
        replace D := al_D hs D (Nat.le_refl _)
        have TM := al_two2S hs ⟨Int.ediv_nonneg mb.1 (by decide), by omega⟩ ⟨by omega, by omega⟩
        (try replace TZ := al_hasS hs TZ)
        (try replace TR := al_hasS hs TR)
        (try replace TK := al_hasS hs TK)
        obtain ⟨A6, h6⟩ := abs_wS hs
        rw [← h6] at hs D
        (try rw [← h6] at TM)
        (try rw [← h6] at TZ)
        (try rw [← h6] at TR)
        (try rw [← h6] at TK)
        simp only [← h6]
        clear h6
        refine wpAnyH_ready (rs := [3, 13]) (by kernel_rfl) (by simp) ?_
        refine AllReadyH.cons rfl (fun K' hK' => ?_) (AllReadyH.cons rfl (fun K' hK' => ?_) AllReadyH.nil)
        · go_simp
          (try rw [zw])
          refine hK'.out _ _ (hs.below ((Below.refl _ _).alloc (Nat.le_refl _) _) hs.lt) (fun hs => ?_)
          clear hK' K'
          try simp only [Act.put, List.setIfInBounds_toArray, List.set_cons_zero, List.set_cons_succ]
          replace D := al_D hs D (Nat.le_refl _)
          have TZ := al_one1S hs ⟨zb.1, by omega⟩
          (try replace TR := al_hasS hs TR)
          (try replace TM := al_hasS hs TM)
          (try replace TK := al_hasS hs TK)
          obtain ⟨A6, h6⟩ := abs_wS hs
          rw [← h6] at hs D
          (try rw [← h6] at TZ)
          (try rw [← h6] at TR)
          (try rw [← h6] at TM)
          (try rw [← h6] at TK)
          simp only [← h6]
          clear h6
          refine wpAnyH_ready (rs := [13]) (by kernel_rfl) (by simp) ?_
          refine AllReadyH.cons rfl (fun K' hK' => ?_) AllReadyH.nil
          go_simp
          (try rw [kw])
          refine hK'.out _ _ (hs.below ((Below.refl _ _).alloc (Nat.le_refl _) _) hs.lt) (fun hs => ?_)
          clear hK' K'
          try simp only [Act.put, List.setIfInBounds_toArray, List.set_cons_zero, List.set_cons_succ]
          replace D := al_D hs D (Nat.le_refl _)
          have TK := al_one1S hs ⟨kb.1, by omega⟩
          (try replace TZ := al_hasS hs TZ)
          (try replace TR := al_hasS hs TR)
          (try replace TM := al_hasS hs TM)
          obtain ⟨A6, h6⟩ := abs_wS hs
          rw [← h6] at hs D
          (try rw [← h6] at TK)
          (try rw [← h6] at TZ)
          (try rw [← h6] at TR)
          (try rw [← h6] at TM)
          simp only [← h6]
          clear h6
          refine wpAnyH_ready (rs := [14]) (by kernel_rfl) (by simp) ?_
          refine AllReadyH.cons rfl (fun K' hK' => ?_) AllReadyH.nil
          go_simp
          refine hK'.out _ _ (hs.below ((Below.refl _ _).alloc (Nat.le_refl _) _) hs.lt) (fun hs => ?_)
          clear hK' K'
          try simp only [Act.put, List.setIfInBounds_toArray, List.set_cons_zero, List.set_cons_succ]
          replace D := al_D hs D (Nat.le_refl _)
          have TG := al_blkS hs
          (try replace TZ := al_hasS hs TZ)
          (try replace TR := al_hasS hs TR)
          (try replace TM := al_hasS hs TM)
          (try replace TK := al_hasS hs TK)
          obtain ⟨A6, h6⟩ := abs_wS hs
          rw [← h6] at hs D
          (try rw [← h6] at TG)
          (try rw [← h6] at TZ)
          (try rw [← h6] at TR)
          (try rw [← h6] at TM)
          (try rw [← h6] at TK)
          simp only [← h6]
          clear h6
          refine wpAnyH_ready (rs := [15]) (by kernel_rfl) (by simp) ?_
          refine AllReadyH.cons rfl (fun K' hK' => ?_) AllReadyH.nil
          go_simp
          refine (headPiece_any z r m k _ _ _ _ _ _ _ (HTab.out _ D) TG TZ TR TM TK).mono ?_
          rintro _ uq ⟨a1, c1, rfl, O1, hb1⟩
          refine hK'.out _ _ (hs.below hb1 hs.lt) (fun hs => ?_)
          clear hK' K'
          try simp only [Act.put, List.setIfInBounds_toArray, List.set_cons_zero, List.set_cons_succ]
          have OB := own_mono O1 (Nat.le_trans KB.out.2.2 D.size)
          have OL := fun g e => (O1.lt g e).1
          have DZ := D.size
          replace D := D.trans (hb1.mono D.size)
          clear TG TZ TR TM TK O1 hb1
          refine take_at (i := 16) (d := some 26) (v := ?mv16) rfl rfl (by kernel_rfl) (by kernel_rfl) (by kernel_rfl) (fun _ _ _ h => h) (Or.inl ⟨by rfl, ?my16⟩) hs ?mg16
          case my16 => (intro z hSz; (have e0 := hSz.cell 0; have e1 := hSz.cell 1; have e2 := hSz.cell 2; have e3 := hSz.cell 3; simp at e0 e1 e2 e3); go_simp; (try with_reducible rfl))
          try simp only [Act.put, List.setIfInBounds_toArray, List.set_cons_zero, List.set_cons_succ]
          refine wpAnyH_ready (rs := [17]) (by kernel_rfl) (by simp) ?_
          refine AllReadyH.cons rfl (fun K' hK' => ?_) AllReadyH.nil
          have RB := RES.out _ D
          obtain ⟨D2, RB2, F2⟩ := al_two (x := .int .i64 0) (y := .slice a1 (hdL z r m k).length c1) (BE.trans (D.mono BE.size)) RB KB.out.1
          have c0 := RB.cell 0
          have c1' := RB.cell 1
          have c2 := RB.frozen 0
          have c3 := RB.frozen 1
          simp at c0 c1'
          go_simp
          refine hK'.out _ _ (hs.fr F2 (by omega)) (fun hs => ?_)
          clear hK' K'
          try simp only [Act.put, List.setIfInBounds_toArray, List.set_cons_zero, List.set_cons_succ]
          refine wpAnyH_done (by kernel_rfl) (NoPanic.normal ?_) _
          have OF := own_fr OB F2 (fun g e1 e2 => by have := OL g e1; have := KB.out.2.1; omega)
          clear OB OL RB c0 c1' c2 c3 hs D SU F2
          obtain ⟨A6, h6⟩ := abs_wS RB2
          rw [← h6] at RB2 D2 OF
          simp only [← h6]
          clear h6
          have r0 := RB2.cell 0
          have r1 := RB2.cell 1
          have r9 := RB2.lt
          simp at r0 r1
          go_wp2
          refine bodyPost_ret (v := .agg #[.int .i64 0, .slice a1 (hdL z r m k).length c1]) (by simp [results, Tryz.results8, go_sem, r0, r1]) rfl ⟨a1, c1, rfl, OF, D2⟩
        · go_simp
          (try rw [kw])
          refine hK'.out _ _ (hs.below ((Below.refl _ _).alloc (Nat.le_refl _) _) hs.lt) (fun hs => ?_)
          clear hK' K'
          try simp only [Act.put, List.setIfInBounds_toArray, List.set_cons_zero, List.set_cons_succ]
          replace D := al_D hs D (Nat.le_refl _)
          have TK := al_one1S hs ⟨kb.1, by omega⟩
          (try replace TZ := al_hasS hs TZ)
          (try replace TR := al_hasS hs TR)
          (try replace TM := al_hasS hs TM)
          obtain ⟨A6, h6⟩ := abs_wS hs
          rw [← h6] at hs D
          (try rw [← h6] at TK)
          (try rw [← h6] at TZ)
          (try rw [← h6] at TR)
          (try rw [← h6] at TM)
          simp only [← h6]
          clear h6
          refine wpAnyH_ready (rs := [3]) (by kernel_rfl) (by simp) ?_
          refine AllReadyH.cons rfl (fun K' hK' => ?_) AllReadyH.nil
          go_simp
          (try rw [zw])
          refine hK'.out _ _ (hs.below ((Below.refl _ _).alloc (Nat.le_refl _) _) hs.lt) (fun hs => ?_)
          clear hK' K'
          try simp only [Act.put, List.setIfInBounds_toArray, List.set_cons_zero, List.set_cons_succ]
          replace D := al_D hs D (Nat.le_refl _)
          have TZ := al_one1S hs ⟨zb.1, by omega⟩
          (try replace TR := al_hasS hs TR)
          (try replace TM := al_hasS hs TM)
          (try replace TK := al_hasS hs TK)
          obtain ⟨A6, h6⟩ := abs_wS hs
          rw [← h6] at hs D
          (try rw [← h6] at TZ)
          (try rw [← h6] at TR)
          (try rw [← h6] at TM)
          (try rw [← h6] at TK)
          simp only [← h6]
          clear h6
          refine wpAnyH_ready (rs := [14]) (by kernel_rfl) (by simp) ?_
          refine AllReadyH.cons rfl (fun K' hK' => ?_) AllReadyH.nil
          go_simp
          refine hK'.out _ _ (hs.below ((Below.refl _ _).alloc (Nat.le_refl _) _) hs.lt) (fun hs => ?_)
          clear hK' K'
          try simp only [Act.put, List.setIfInBounds_toArray, List.set_cons_zero, List.set_cons_succ]
          replace D := al_D hs D (Nat.le_refl _)
          have TG := al_blkS hs
          (try replace TZ := al_hasS hs TZ)
          (try replace TR := al_hasS hs TR)
          (try replace TM := al_hasS hs TM)
          (try replace TK := al_hasS hs TK)
          obtain ⟨A6, h6⟩ := abs_wS hs
          rw [← h6] at hs D
          (try rw [← h6] at TG)
          (try rw [← h6] at TZ)
          (try rw [← h6] at TR)
          (try rw [← h6] at TM)
          (try rw [← h6] at TK)
          simp only [← h6]
          clear h6
          refine wpAnyH_ready (rs := [15]) (by kernel_rfl) (by simp) ?_
          refine AllReadyH.cons rfl (fun K' hK' => ?_) AllReadyH.nil
          go_simp
          refine (headPiece_any z r m k _ _ _ _ _ _ _ (HTab.out _ D) TG TZ TR TM TK).mono ?_
          rintro _ uq ⟨a1, c1, rfl, O1, hb1⟩
          refine hK'.out _ _ (hs.below hb1 hs.lt) (fun hs => ?_)
          clear hK' K'
          try simp only [Act.put, List.setIfInBounds_toArray, List.set_cons_zero, List.set_cons_succ]
          have OB := own_mono O1 (Nat.le_trans KB.out.2.2 D.size)
          have OL := fun g e => (O1.lt g e).1
          have DZ := D.size
          replace D := D.trans (hb1.mono D.size)
          clear TG TZ TR TM TK O1 hb1
          refine take_at (i := 16) (d := some 26) (v := ?mv17) rfl rfl (by kernel_rfl) (by kernel_rfl) (by kernel_rfl) (fun _ _ _ h => h) (Or.inl ⟨by rfl, ?my17⟩) hs ?mg17
          case my17 => (intro z hSz; (have e0 := hSz.cell 0; have e1 := hSz.cell 1; have e2 := hSz.cell 2; have e3 := hSz.cell 3; simp at e0 e1 e2 e3); go_simp; (try with_reducible rfl))
          try simp only [Act.put, List.setIfInBounds_toArray, List.set_cons_zero, List.set_cons_succ]
          refine wpAnyH_ready (rs := [17]) (by kernel_rfl) (by simp) ?_
          refine AllReadyH.cons rfl (fun K' hK' => ?_) AllReadyH.nil
          have RB := RES.out _ D
          obtain ⟨D2, RB2, F2⟩ := al_two (x := .int .i64 0) (y := .slice a1 (hdL z r m k).length c1) (BE.trans (D.mono BE.size)) RB KB.out.1
          have c0 := RB.cell 0
          have c1' := RB.cell 1
          have c2 := RB.frozen 0
          have c3 := RB.frozen 1
          simp at c0 c1'
          go_simp
          refine hK'.out _ _ (hs.fr F2 (by omega)) (fun hs => ?_)
          clear hK' K'
          try simp only [Act.put, List.setIfInBounds_toArray, List.set_cons_zero, List.set_cons_succ]
          refine wpAnyH_done (by kernel_rfl) (NoPanic.normal ?_) _
          have OF := own_fr OB F2 (fun g e1 e2 => by have := OL g e1; have := KB.out.2.1; omega)
          clear OB OL RB c0 c1' c2 c3 hs D SU F2
          obtain ⟨A6, h6⟩ := abs_wS RB2
          rw [← h6] at RB2 D2 OF
          simp only [← h6]
          clear h6
          have r0 := RB2.cell 0
          have r1 := RB2.cell 1
          have r9 := RB2.lt
          simp at r0 r1
          go_wp2
          refine bodyPost_ret (v := .agg #[.int .i64 0, .slice a1 (hdL z r m k).length c1]) (by simp [results, Tryz.results8, go_sem, r0, r1]) rfl ⟨a1, c1, rfl, OF, D2⟩
      · go_simp
        (try rw [kw])
        refine hK'.out _ _ (hs.below ((Below.refl _ _).alloc (Nat.le_refl _) _) hs.lt) (fun hs => ?_)
        clear hK' K'
        try simp only [Act.put, List.setIfInBounds_toArray, List.set_cons_zero, List.set_cons_succ]
        replace D := al_D hs D (Nat.le_refl _)
        have TK := al_one1S hs ⟨kb.1, by omega⟩
        (try replace TZ := al_hasS hs TZ)
        (try replace TR := al_hasS hs TR)
        (try replace TM := al_hasS hs TM)
        obtain ⟨A6, h6⟩ := abs_wS hs
        rw [← h6] at hs D
        (try rw [← h6] at TK)
        (try rw [← h6] at TZ)
        (try rw [← h6] at TR)
        (try rw [← h6] at TM)
        simp only [← h6]
        clear h6
        refine wpAnyH_ready (rs := [3, 9]) (by kernel_rfl) (by simp) ?_
        refine AllReadyH.cons rfl (fun K' hK' => ?_) (AllReadyH.cons rfl (fun K' hK' => ?_) AllReadyH.nil)
        · go_simp
          (try rw [zw])
          refine hK'.out _ _ (hs.below ((Below.refl _ _).alloc (Nat.le_refl _) _) hs.lt) (fun hs => ?_)
          clear hK' K'
          try simp only [Act.put, List.setIfInBounds_toArray, List.set_cons_zero, List.set_cons_succ]
          replace D := al_D hs D (Nat.le_refl _)
          have TZ := al_one1S hs ⟨zb.1, by omega⟩
          (try replace TR := al_hasS hs TR)
          (try replace TM := al_hasS hs TM)
          (try replace TK := al_hasS hs TK)
          obtain ⟨A6, h6⟩ := abs_wS hs
          rw [← h6] at hs D
          (try rw [← h6] at TZ)
          (try rw [← h6] at TR)
          (try rw [← h6] at TM)
          (try rw [← h6] at TK)
          simp only [← h6]
          clear h6
          refine wpAnyH_ready (rs := [9]) (by kernel_rfl) (by simp) ?_
          refine AllReadyH.cons rfl (fun K' hK' => ?_) AllReadyH.nil
          go_simp
          refine (twoBytes_any m _ mb.1 (by omega)).mono ?_
          rintro _ ub ⟨rfl, rfl⟩
          refine hK'.out _ _ (hs.below ((Below.refl _ _).alloc (Nat.le_refl _) _) hs.lt) (fun hs => ?_)
          clear hK' K'
          try simp only [Act.put, List.setIfInBounds_toArray, List.set_cons_zero, List.set_cons_succ]
          replace D := al_D hs D (Nat.le_refl _)
          have TM := al_two2S hs ⟨Int.ediv_nonneg mb.1 (by decide), by omega⟩ ⟨by omega, by omega⟩
          (try replace TZ := al_hasS hs TZ)
          (try replace TR := al_hasS hs TR)
          (try replace TK := al_hasS hs TK)
          obtain ⟨A6, h6⟩ := abs_wS hs
          rw [← h6] at hs D
          (try rw [← h6] at TM)
          (try rw [← h6] at TZ)
          (try rw [← h6] at TR)
          (try rw [← h6] at TK)
          simp only [← h6]
          clear h6
          refine wpAnyH_ready (rs := [14]) (by kernel_rfl) (by simp) ?_
          refine AllReadyH.cons rfl (fun K' hK' => ?_) AllReadyH.nil
          go_simp
          refine hK'.out _ _ (hs.below ((Below.refl _ _).alloc (Nat.le_refl _) _) hs.lt) (fun hs => ?_)
          clear hK' K'
          try simp only [Act.put, List.setIfInBounds_toArray, List.set_cons_zero, List.set_cons_succ]
          replace D := al_D hs D (Nat.le_refl _)
          have TG := al_blkS hs
          (try replace TZ := al_hasS hs TZ)
          (try replace TR := al_hasS hs TR)
          (try replace TM := al_hasS hs TM)
          (try replace TK := al_hasS hs TK)
          obtain ⟨A6, h6⟩ := abs_wS hs
          rw [← h6] at hs D
          (try rw [← h6] at TG)
          (try rw [← h6] at TZ)
          (try rw [← h6] at TR)
          (try rw [← h6] at TM)
          (try rw [← h6] at TK)
          simp only [← h6]
          clear h6
          refine wpAnyH_ready (rs := [15]) (by kernel_rfl) (by simp) ?_
          refine AllReadyH.cons rfl (fun K' hK' => ?_) AllReadyH.nil
          go_simp
          refine (headPiece_any z r m k _ _ _ _ _ _ _ (HTab.out _ D) TG TZ TR TM TK).mono ?_
          rintro _ uq ⟨a1, c1, rfl, O1, hb1⟩
          refine hK'.out _ _ (hs.below hb1 hs.lt) (fun hs => ?_)
          clear hK' K'
          try simp only [Act.put, List.setIfInBounds_toArray, List.set_cons_zero, List.set_cons_succ]
          have OB := own_mono O1 (Nat.le_trans KB.out.2.2 D.size)
          have OL := fun g e => (O1.lt g e).1
          have DZ := D.size
          replace D := D.trans (hb1.mono D.size)
          clear TG TZ TR TM TK O1 hb1
          refine take_at (i := 16) (d := some 26) (v := ?mv18) rfl rfl (by kernel_rfl) (by kernel_rfl) (by kernel_rfl) (fun _ _ _ h => h) (Or.inl ⟨by rfl, ?my18⟩) hs ?mg18
          case my18 => (intro z hSz; (have e0 := hSz.cell 0; have e1 := hSz.cell 1; have e2 := hSz.cell 2; have e3 := hSz.cell 3; simp at e0 e1 e2 e3); go_simp; (try with_reducible rfl))
          try simp only [Act.put, List.setIfInBounds_toArray, List.set_cons_zero, List.set_cons_succ]
          refine wpAnyH_ready (rs := [17]) (by kernel_rfl) (by simp) ?_
          refine AllReadyH.cons rfl (fun K' hK' => ?_) AllReadyH.nil
          have RB := RES.out _ D
          obtain ⟨D2, RB2, F2⟩ := al_two (x := .int .i64 0) (y := .slice a1 (hdL z r m k).length c1) (BE.trans (D.mono BE.size)) RB KB.out.1
          have c0 := RB.cell 0
          have c1' := RB.cell 1
          have c2 := RB.frozen 0
          have c3 := RB.frozen 1
          simp at c0 c1'
          go_simp
          refine hK'.out _ _ (hs.fr F2 (by omega)) (fun hs => ?_)
          clear hK' K'
          try simp only [Act.put, List.setIfInBounds_toArray, List.set_cons_zero, List.set_cons_succ]
          refine wpAnyH_done (by kernel_rfl) (NoPanic.normal ?_) _
          have OF := own_fr OB F2 (fun g e1 e2 => by have := OL g e1; have := KB.out.2.1; omega)
          clear OB OL RB c0 c1' c2 c3 hs D SU F2
          obtain ⟨A6, h6⟩ := abs_wS RB2
          rw [← h6] at RB2 D2 OF
          simp only [← h6]
          clear h6
          have r0 := RB2.cell 0
          have r1 := RB2.cell 1
          have r9 := RB2.lt
          simp at r0 r1
          go_wp2
          refine bodyPost_ret (v := .agg #[.int .i64 0, .slice a1 (hdL z r m k).length c1]) (by simp [results, Tryz.results8, go_sem, r0, r1]) rfl ⟨a1, c1, rfl, OF, D2⟩
        · go_simp
          refine (twoBytes_any m _ mb.1 (by omega)).mono ?_
          rintro _ ub ⟨rfl, rfl⟩
          refine hK'.out _ _ (hs.below ((Below.refl _ _).alloc (Nat.le_refl _) _) hs.lt) (fun hs => ?_)
          clear hK' K'
          try simp only [Act.put, List.setIfInBounds_toArray, List.set_cons_zero, List.set_cons_succ]
          replace D := al_D hs D (Nat.le_refl _)
          have TM := al_two2S hs ⟨Int.ediv_nonneg mb.1 (by decide), by omega⟩ ⟨by omega, by omega⟩
          (try replace TZ := al_hasS hs TZ)
          (try replace TR := al_hasS hs TR)
          (try replace TK := al_hasS hs TK)
          obtain ⟨A6, h6⟩ := abs_wS hs
          rw [← h6] at hs D
          (try rw [← h6] at TM)
          (try rw [← h6] at TZ)
          (try rw [← h6] at TR)
          (try rw [← h6] at TK)
          simp only [← h6]
          clear h6
          refine wpAnyH_ready (rs := [3]) (by kernel_rfl) (by simp) ?_
          refine AllReadyH.cons rfl (fun K' hK' => ?_) AllReadyH.nil
          go_simp
          (try rw [zw])
          refine hK'.out _ _ (hs.below ((Below.refl _ _).alloc (Nat.le_refl _) _) hs.lt) (fun hs => ?_)
          clear hK' K'
          try simp only [Act.put, List.setIfInBounds_toArray, List.set_cons_zero, List.set_cons_succ]
          replace D := al_D hs D (Nat.le_refl _)
          have TZ := al_one1S hs ⟨zb.1, by omega⟩
          (try replace TR := al_hasS hs TR)
          (try replace TM := al_hasS hs TM)
          (try replace TK := al_hasS hs TK)
          obtain ⟨A6, h6⟩ := abs_wS hs
          rw [← h6] at hs D
          (try rw [← h6] at TZ)
          (try rw [← h6] at TR)
          (try rw [← h6] at TM)
          (try rw [← h6] at TK)
          simp only [← h6]
          clear h6
          refine wpAnyH_ready (rs := [14]) (by kernel_rfl) (by simp) ?_
          refine AllReadyH.cons rfl (fun K' hK' => ?_) AllReadyH.nil
          go_simp
          refine hK'.out _ _ (hs.below ((Below.refl _ _).alloc (Nat.le_refl _) _) hs.lt) (fun hs => ?_)
          clear hK' K'
          try simp only [Act.put, List.setIfInBounds_toArray, List.set_cons_zero, List.set_cons_succ]
          replace D := al_D hs D (Nat.le_refl _)
          have TG := al_blkS hs
          (try replace TZ := al_hasS hs TZ)
          (try replace TR := al_hasS hs TR)
          (try replace TM := al_hasS hs TM)
          (try replace TK := al_hasS hs TK)
          obtain ⟨A6, h6⟩ := abs_wS hs
          rw [← h6] at hs D
          (try rw [← h6] at TG)
          (try rw [← h6] at TZ)
          (try rw [← h6] at TR)
          (try rw [← h6] at TM)
          (try rw [← h6] at TK)
          simp only [← h6]
          clear h6
          refine wpAnyH_ready (rs := [15]) (by kernel_rfl) (by simp) ?_
          refine AllReadyH.cons rfl (fun K' hK' => ?_) AllReadyH.nil
          go_simp
          refine (headPiece_any z r m k _ _ _ _ _ _ _ (HTab.out _ D) TG TZ TR TM TK).mono ?_
          rintro _ uq ⟨a1, c1, rfl, O1, hb1⟩
          refine hK'.out _ _ (hs.below hb1 hs.lt) (fun hs => ?_)
          clear hK' K'
          try simp only [Act.put, List.setIfInBounds_toArray, List.set_cons_zero, List.set_cons_succ]
          have OB := own_mono O1 (Nat.le_trans KB.out.2.2 D.size)
          have OL := fun g e => (O1.lt g e).1
          have DZ := D.size
          replace D := D.trans (hb1.mono D.size)
          clear TG TZ TR TM TK O1 hb1
          refine take_at (i := 16) (d := some 26) (v := ?mv19) rfl rfl (by kernel_rfl) (by kernel_rfl) (by kernel_rfl) (fun _ _ _ h => h) (Or.inl ⟨by rfl, ?my19⟩) hs ?mg19
          case my19 => (intro z hSz; (have e0 := hSz.cell 0; have e1 := hSz.cell 1; have e2 := hSz.cell 2; have e3 := hSz.cell 3; simp at e0 e1 e2 e3); go_simp; (try with_reducible rfl))
          try simp only [Act.put, List.setIfInBounds_toArray, List.set_cons_zero, List.set_cons_succ]
          refine wpAnyH_ready (rs := [17]) (by kernel_rfl) (by simp) ?_
          refine AllReadyH.cons rfl (fun K' hK' => ?_) AllReadyH.nil
          have RB := RES.out _ D
          obtain ⟨D2, RB2, F2⟩ := al_two (x := .int .i64 0) (y := .slice a1 (hdL z r m k).length c1) (BE.trans (D.mono BE.size)) RB KB.out.1
          have c0 := RB.cell 0
          have c1' := RB.cell 1
          have c2 := RB.frozen 0
          have c3 := RB.frozen 1
          simp at c0 c1'
          go_simp
          refine hK'.out _ _ (hs.fr F2 (by omega)) (fun hs => ?_)
          clear hK' K'
          try simp only [Act.put, List.setIfInBounds_toArray, List.set_cons_zero, List.set_cons_succ]
          refine wpAnyH_done (by kernel_rfl) (NoPanic.normal ?_) _
          have OF := own_fr OB F2 (fun g e1 e2 => by have := OL g e1; have := KB.out.2.1; omega)
          clear OB OL RB c0 c1' c2 c3 hs D SU F2
          obtain ⟨A6, h6⟩ := abs_wS RB2
          rw [← h6] at RB2 D2 OF
          simp only [← h6]
          clear h6
          have r0 := RB2.cell 0
          have r1 := RB2.cell 1
          have r9 := RB2.lt
          simp at r0 r1
          go_wp2
          refine bodyPost_ret (v := .agg #[.int .i64 0, .slice a1 (hdL z r m k).length c1]) (by simp [results, Tryz.results8, go_sem, r0, r1]) rfl ⟨a1, c1, rfl, OF, D2⟩
    · go_simp
      (try rw [kw])
      refine hK'.out _ _ (hs.below ((Below.refl _ _).alloc (Nat.le_refl _) _) hs.lt) (fun hs => ?_)
      clear hK' K'
      try simp only [Act.put, List.setIfInBounds_toArray, List.set_cons_zero, List.set_cons_succ]
      replace D := al_D hs D (Nat.le_refl _)
      have TK := al_one1S hs ⟨kb.1, by omega⟩
      (try replace TZ := al_hasS hs TZ)
      (try replace TR := al_hasS hs TR)
      (try replace TM := al_hasS hs TM)
      obtain ⟨A6, h6⟩ := abs_wS hs
      rw [← h6] at hs D
      (try rw [← h6] at TK)
      (try rw [← h6] at TZ)
      (try rw [← h6] at TR)
      (try rw [← h6] at TM)
      simp only [← h6]
      clear h6
      refine wpAnyH_ready (rs := [3, 6]) (by kernel_rfl) (by simp) ?_
      refine AllReadyH.cons rfl (fun K' hK' => ?_) (AllReadyH.cons rfl (fun K' hK' => ?_) AllReadyH.nil)
      · go_simp
        (try rw [zw])
        refine hK'.out _ _ (hs.below ((Below.refl _ _).alloc (Nat.le_refl _) _) hs.lt) (fun hs => ?_)
        clear hK' K'
        try simp only [Act.put, List.setIfInBounds_toArray, List.set_cons_zero, List.set_cons_succ]
        replace D := al_D hs D (Nat.le_refl _)
        have TZ := al_one1S hs ⟨zb.1, by omega⟩
        (try replace TR := al_hasS hs TR)
        (try replace TM := al_hasS hs TM)
        (try replace TK := al_hasS hs TK)
        obtain ⟨A6, h6⟩ := abs_wS hs
        rw [← h6] at hs D
        (try rw [← h6] at TZ)
        (try rw [← h6] at TR)
        (try rw [← h6] at TM)
        (try rw [← h6] at TK)
        simp only [← h6]
        clear h6
        refine wpAnyH_ready (rs := [6]) (by kernel_rfl) (by simp) ?_
        refine AllReadyH.cons rfl (fun K' hK' => ?_) AllReadyH.nil
        go_simp
        refine (twoBytes_any r _ rb.1 (by omega)).mono ?_
        rintro _ ub ⟨rfl, rfl⟩
        refine hK'.out _ _ (hs.below ((Below.refl _ _).alloc (Nat.le_refl _) _) hs.lt) (fun hs => ?_)
        clear hK' K'
        try simp only [Act.put, List.setIfInBounds_toArray, List.set_cons_zero, List.set_cons_succ]
        replace D := al_D hs D (Nat.le_refl _)
        have TR := al_two2S hs ⟨Int.ediv_nonneg rb.1 (by decide), by omega⟩ ⟨by omega, by omega⟩
        (try replace TZ := al_hasS hs TZ)
        (try replace TM := al_hasS hs TM)
        (try replace TK := al_hasS hs TK)
        obtain ⟨A6, h6⟩ := abs_wS hs
        rw [← h6] at hs D
        (try rw [← h6] at TR)
        (try rw [← h6] at TZ)
        (try rw [← h6] at TM)
        (try rw [← h6] at TK)
        simp only [← h6]
        clear h6
        refine wpAnyH_ready (rs := [9]) (by kernel_rfl) (by simp) ?_
        refine AllReadyH.cons rfl (fun K' hK' => ?_) AllReadyH.nil
        go_simp
        refine (twoBytes_any m _ mb.1 (by omega)).mono ?_
        rintro _ ub ⟨rfl, rfl⟩
        refine hK'.out _ _ (hs.below ((Below.refl _ _).alloc (Nat.le_refl _) _) hs.lt) (fun hs => ?_)
        clear hK' K'
        try simp only [Act.put, List.setIfInBounds_toArray, List.set_cons_zero, List.set_cons_succ]
        replace D := al_D hs D (Nat.le_refl _)
        have TM := al_two2S hs ⟨Int.ediv_nonneg mb.1 (by decide), by omega⟩ ⟨by omega, by omega⟩
        (try replace TZ := al_hasS hs TZ)
        (try replace TR := al_hasS hs TR)
        (try replace TK := al_hasS hs TK)
        obtain ⟨A6, h6⟩ := abs_wS hs
        rw [← h6] at hs D
        (try rw [← h6] at TM)
        (try rw [← h6] at TZ)
        (try rw [← h6] at TR)
        (try rw [← h6] at TK)
        simp only [← h6]
        clear h6
        refine wpAnyH_ready (rs := [14]) (by kernel_rfl) (by simp) ?_
        refine AllReadyH.cons rfl (fun K' hK' => ?_) AllReadyH.nil
        go_simp
        refine hK'.out _ _ (hs.below ((Below.refl _ _).alloc (Nat.le_refl _) _) hs.lt) (fun hs => ?_)
        clear hK' K'
        try simp only [Act.put, List.setIfInBounds_toArray, List.set_cons_zero, List.set_cons_succ]
        replace D := al_D hs D (Nat.le_refl _)
        have TG := al_blkS hs
        (try replace TZ := al_hasS hs TZ)
        (try replace TR := al_hasS hs TR)
        (try replace TM := al_hasS hs TM)
        (try replace TK := al_hasS hs TK)
        obtain ⟨A6, h6⟩ := abs_wS hs
        rw [← h6] at hs D
        (try rw [← h6] at TG)
        (try rw [← h6] at TZ)
        (try rw [← h6] at TR)
        (try rw [← h6] at TM)
        (try rw [← h6] at TK)
        simp only [← h6]
        clear h6
        refine wpAnyH_ready (rs := [15]) (by kernel_rfl) (by simp) ?_
        refine AllReadyH.cons rfl (fun K' hK' => ?_) AllReadyH.nil
        go_simp
        refine (headPiece_any z r m k _ _ _ _ _ _ _ (HTab.out _ D) TG TZ TR TM TK).mono ?_
        rintro _ uq ⟨a1, c1, rfl, O1, hb1⟩
        refine hK'.out _ _ (hs.below hb1 hs.lt) (fun hs => ?_)
        clear hK' K'
        try simp only [Act.put, List.setIfInBounds_toArray, List.set_cons_zero, List.set_cons_succ]
        have OB := own_mono O1 (Nat.le_trans KB.out.2.2 D.size)
        have OL := fun g e => (O1.lt g e).1
        have DZ := D.size
        replace D := D.trans (hb1.mono D.size)
        clear TG TZ TR TM TK O1 hb1
        refine take_at (i := 16) (d := some 26) (v := ?mv20) rfl rfl (by kernel_rfl) (by kernel_rfl) (by kernel_rfl) (fun _ _ _ h => h) (Or.inl ⟨by rfl, ?my20⟩) hs ?mg20
        case my20 => (intro z hSz; (have e0 := hSz.cell 0; have e1 := hSz.cell 1; have e2 := hSz.cell 2; have e3 := hSz.cell 3; simp at e0 e1 e2 e3); go_simp; (try with_reducible rfl))
        try simp only [Act.put, List.setIfInBounds_toArray, List.set_cons_zero, List.set_cons_succ]
        refine wpAnyH_ready (rs := [17]) (by kernel_rfl) (by simp) ?_
        refine AllReadyH.cons rfl (fun K' hK' => ?_) AllReadyH.nil
        have RB := RES.out _ D
        obtain ⟨D2, RB2, F2⟩ := al_two (x := .int .i64 0) (y := .slice a1 (hdL z r m k).length c1) (BE.trans (D.mono BE.size)) RB KB.out.1
        have c0 := RB.cell 0
        have c1' := RB.cell 1
        have c2 := RB.frozen 0
        have c3 := RB.frozen 1
        simp at c0 c1'
        go_simp
        refine hK'.out _ _ (hs.fr F2 (by omega)) (fun hs => ?_)
        clear hK' K'
        try simp only [Act.put, List.setIfInBounds_toArray, List.set_cons_zero, List.set_cons_succ]
        refine wpAnyH_done (by kernel_rfl) (NoPanic.normal ?_) _
        have OF := own_fr OB F2 (fun g e1 e2 => by have := OL g e1; have := KB.out.2.1; omega)
        clear OB OL RB c0 c1' c2 c3 hs D SU F2
        obtain ⟨A6, h6⟩ := abs_wS RB2
        rw [← h6] at RB2 D2 OF
        simp only [← h6]
        clear h6
        have r0 := RB2.cell 0
        have r1 := RB2.cell 1
        have r9 := RB2.lt
        simp at r0 r1
        go_wp2
        refine bodyPost_ret (v := .agg #[.int .i64 0, .slice a1 (hdL z r m k).length c1]) (by simp [results, Tryz.results8, go_sem, r0, r1]) rfl ⟨a1, c1, rfl, OF, D2⟩
      · go_simp
        refine (twoBytes_any r _ rb.1 (by omega)).mono ?_
        rintro _ ub ⟨rfl, rfl⟩
        refine hK'.out _ _ (hs.below ((Below.refl _ _).alloc (Nat.le_refl _) _) hs.lt) (fun hs => ?_)
        clear hK' K'
        try simp only [Act.put, List.setIfInBounds_toArray, List.set_cons_zero, List.set_cons_succ]
        replace D := al_D hs D (Nat.le_refl _)
        have TR := al_two2S hs ⟨Int.ediv_nonneg rb.1 (by decide), by omega⟩ ⟨by omega, by omega⟩
        (try replace TZ := al_hasS hs TZ)
        (try replace TM := al_hasS hs TM)
        (try replace TK := al_hasS hs TK)
        obtain ⟨A6, h6⟩ := abs_wS hs
        rw [← h6] at hs D
        (try rw [← h6] at TR)
        (try rw [← h6] at TZ)
        (try rw [← h6] at TM)
        (try rw [← h6] at TK)
        simp only [← h6]
        clear h6
        refine wpAnyH_ready (rs := [3, 9]) (by kernel_rfl) (by simp) ?_
        refine AllReadyH.cons rfl (fun K' hK' => ?_) (AllReadyH.cons rfl (fun K' hK' => ?_) AllReadyH.nil)
        · go_simp
          (try rw [zw])
          refine hK'.out _ _ (hs.below ((Below.refl _ _).alloc (Nat.le_refl _) _) hs.lt) (fun hs => ?_)
          clear hK' K'
          try simp only [Act.put, List.setIfInBounds_toArray, List.set_cons_zero, List.set_cons_succ]
          replace D := al_D hs D (Nat.le_refl _)
          have TZ := al_one1S hs ⟨zb.1, by omega⟩
          (try replace TR := al_hasS hs TR)
          (try replace TM := al_hasS hs TM)
          (try replace TK := al_hasS hs TK)
          obtain ⟨A6, h6⟩ := abs_wS hs
          rw [← h6] at hs D
          (try rw [← h6] at TZ)
          (try rw [← h6] at TR)
          (try rw [← h6] at TM)
          (try rw [← h6] at TK)
          simp only [← h6]
          clear h6
          refine wpAnyH_ready (rs := [9]) (by kernel_rfl) (by simp) ?_
          refine AllReadyH.cons rfl (fun K' hK' => ?_) AllReadyH.nil
          go_simp
          refine (twoBytes_any m _ mb.1 (by omega)).mono ?_
          rintro _ ub ⟨rfl, rfl⟩
          refine hK'.out _ _ (hs.below ((Below.refl _ _).alloc (Nat.le_refl _) _) hs.lt) (fun hs => ?_)
          clear hK' K'
          try simp only [Act.put, List.setIfInBounds_toArray, List.set_cons_zero, List.set_cons_succ]
          replace D := al_D hs D (Nat.le_refl _)
          have TM := al_two2S hs ⟨Int.ediv_nonneg mb.1 (by decide), by omega⟩ ⟨by omega, by omega⟩
          (try replace TZ := al_hasS hs TZ)
          (try replace TR := al_hasS hs TR)
          (try replace TK := al_hasS hs TK)
          obtain ⟨A6, h6⟩ := abs_wS hs
          rw [← h6] at hs D
          (try rw [← h6] at TM)
          (try rw [← h6] at TZ)
          (try rw [← h6] at TR)
          (try rw [← h6] at TK)
          simp only [← h6]
          clear h6
          refine wpAnyH_ready (rs := [14]) (by kernel_rfl) (by simp) ?_
          refine AllReadyH.cons rfl (fun K' hK' => ?_) AllReadyH.nil
          go_simp
          refine hK'.out _ _ (hs.below ((Below.refl _ _).alloc (Nat.le_refl _) _) hs.lt) (fun hs => ?_)
          clear hK' K'
          try simp only [Act.put, List.setIfInBounds_toArray, List.set_cons_zero, List.set_cons_succ]
          replace D := al_D hs D (Nat.le_refl _)
          have TG := al_blkS hs
          (try replace TZ := al_hasS hs TZ)
          (try replace TR := al_hasS hs TR)
          (try replace TM := al_hasS hs TM)
          (try replace TK := al_hasS hs TK)
          obtain ⟨A6, h6⟩ := abs_wS hs
          rw [← h6] at hs D
          (try rw [← h6] at TG)
          (try rw [← h6] at TZ)
          (try rw [← h6] at TR)
          (try rw [← h6] at TM)
          (try rw [← h6] at TK)
          simp only [← h6]
          clear h6
          refine wpAnyH_ready (rs := [15]) (by kernel_rfl) (by simp) ?_
          refine AllReadyH.cons rfl (fun K' hK' => ?_) AllReadyH.nil
          go_simp
          refine (headPiece_any z r m k _ _ _ _ _ _ _ (HTab.out _ D) TG TZ TR TM TK).mono ?_
          rintro _ uq ⟨a1, c1, rfl, O1, hb1⟩
          refine hK'.out _ _ (hs.below hb1 hs.lt) (fun hs => ?_)
          clear hK' K'
          try simp only [Act.put, List.setIfInBounds_toArray, List.set_cons_zero, List.set_cons_succ]
          have OB := own_mono O1 (Nat.le_trans KB.out.2.2 D.size)
          have OL := fun g e => (O1.lt g e).1
          have DZ := D.size
          replace D := D.trans (hb1.mono D.size)
          clear TG TZ TR TM TK O1 hb1
          refine take_at (i := 16) (d := some 26) (v := ?mv21) rfl rfl (by kernel_rfl) (by kernel_rfl) (by kernel_rfl) (fun _ _ _ h => h) (Or.inl ⟨by rfl, ?my21⟩) hs ?mg21
          case my21 => (intro z hSz; (have e0 := hSz.cell 0; have e1 := hSz.cell 1; have e2 := hSz.cell 2; have e3 := hSz.cell 3; simp at e0 e1 e2 e3); go_simp; (try with_reducible rfl))
          try simp only [Act.put, List.setIfInBounds_toArray, List.set_cons_zero, List.set_cons_succ]
          refine wpAnyH_ready (rs := [17]) (by kernel_rfl) (by simp) ?_
          refine AllReadyH.cons rfl (fun K' hK' => ?_) AllReadyH.nil
          have RB := RES.out _ D
          obtain ⟨D2, RB2, F2⟩ := al_two (x := .int .i64 0) (y := .slice a1 (hdL z r m k).length c1) (BE.trans (D.mono BE.size)) RB KB.out.1
          have c0 := RB.cell 0
          have c1' := RB.cell 1
          have c2 := RB.frozen 0
          have c3 := RB.frozen 1
          simp at c0 c1'
          go_simp
          refine hK'.out _ _ (hs.fr F2 (by omega)) (fun hs => ?_)
          clear hK' K'
          try simp only [Act.put, List.setIfInBounds_toArray, List.set_cons_zero, List.set_cons_succ]
          refine wpAnyH_done (by kernel_rfl) (NoPanic.normal ?_) _
          have OF := own_fr OB F2 (fun g e1 e2 => by have := OL g e1; have := KB.out.2.1; omega)
          clear OB OL RB c0 c1' c2 c3 hs D SU F2
          obtain ⟨A6, h6⟩ := abs_wS RB2
          rw [← h6] at RB2 D2 OF
          simp only [← h6]
          clear h6
          have r0 := RB2.cell 0
          have r1 := RB2.cell 1
          have r9 := RB2.lt
          simp at r0 r1
          go_wp2
          refine bodyPost_ret (v := .agg #[.int .i64 0, .slice a1 (hdL z r m k).length c1]) (by simp [results, Tryz.results8, go_sem, r0, r1]) rfl ⟨a1, c1, rfl, OF, D2⟩
        · go_simp
          refine (twoBytes_any m _ mb.1 (by omega)).mono ?_
          rintro _ ub ⟨rfl, rfl⟩
          refine hK'.out _ _ (hs.below ((Below.refl _ _).alloc (Nat.le_refl _) _) hs.lt) (fun hs => ?_)
          clear hK' K'
          try simp only [Act.put, List.setIfInBounds_toArray, List.set_cons_zero, List.set_cons_succ]
          replace D := al_D hs D (Nat.le_refl _)
          have TM := al_two2S hs ⟨Int.ediv_nonneg mb.1 (by decide), by omega⟩ ⟨by omega, by omega⟩
          (try replace TZ := al_hasS hs TZ)
          (try replace TR := al_hasS hs TR)
          (try replace TK := al_hasS hs TK)
          obtain ⟨A6, h6⟩ := abs_wS hs
          rw [← h6] at hs D
          (try rw [← h6] at TM)
          (try rw [← h6] at TZ)
          (try rw [← h6] at TR)
          (try rw [← h6] at TK)
          simp only [← h6]
          clear h6
          refine wpAnyH_ready (rs := [3]) (by kernel_rfl) (by simp) ?_
          refine AllReadyH.cons rfl (fun K' hK' => ?_) AllReadyH.nil
          go_simp
          (try rw [zw])
          refine hK'.out _ _ (hs.below ((Below.refl _ _).alloc (Nat.le_refl _) _) hs.lt) (fun hs => ?_)
          clear hK' K'
          try simp only [Act.put, List.setIfInBounds_toArray, List.set_cons_zero, List.set_cons_succ]
          replace D := al_D hs D (Nat.le_refl _)
          have TZ := al_one1S hs ⟨zb.1, by omega⟩
          (try replace TR := al_hasS hs TR)
          (try replace TM := al_hasS hs TM)
          (try replace TK := al_hasS hs TK)
          obtain ⟨A6, h6⟩ := abs_wS hs
          rw [← h6] at hs D
          (try rw [← h6] at TZ)
          (try rw [← h6] at TR)
          (try rw [← h6] at TM)
          (try rw [← h6] at TK)
          simp only [← h6]
          clear h6
          refine wpAnyH_ready (rs := [14]) (by kernel_rfl) (by simp) ?_
          refine AllReadyH.cons rfl (fun K' hK' => ?_) AllReadyH.nil
          go_simp
          refine hK'.out _ _ (hs.below ((Below.refl _ _).alloc (Nat.le_refl _) _) hs.lt) (fun hs => ?_)
          clear hK' K'
          try simp only [Act.put, List.setIfInBounds_toArray, List.set_cons_zero, List.set_cons_succ]
          replace D := al_D hs D (Nat.le_refl _)
          have TG := al_blkS hs
          (try replace TZ := al_hasS hs TZ)
          (try replace TR := al_hasS hs TR)
          (try replace TM := al_hasS hs TM)
          (try replace TK := al_hasS hs TK)
          obtain ⟨A6, h6⟩ := abs_wS hs
          rw [← h6] at hs D
          (try rw [← h6] at TG)
          (try rw [← h6] at TZ)
          (try rw [← h6] at TR)
          (try rw [← h6] at TM)
          (try rw [← h6] at TK)
          simp only [← h6]
          clear h6
          refine wpAnyH_ready (rs := [15]) (by kernel_rfl) (by simp) ?_
          refine AllReadyH.cons rfl (fun K' hK' => ?_) AllReadyH.nil
          go_simp
          refine (headPiece_any z r m k _ _ _ _ _ _ _ (HTab.out _ D) TG TZ TR TM TK).mono ?_
          rintro _ uq ⟨a1, c1, rfl, O1, hb1⟩
          refine hK'.out _ _ (hs.below hb1 hs.lt) (fun hs => ?_)
          clear hK' K'
          try simp only [Act.put, List.setIfInBounds_toArray, List.set_cons_zero, List.set_cons_succ]
          have OB := own_mono O1 (Nat.le_trans KB.out.2.2 D.size)
          have OL := fun g e => (O1.lt g e).1
          have DZ := D.size
          replace D := D.trans (hb1.mono D.size)
          clear TG TZ TR TM TK O1 hb1
          refine take_at (i := 16) (d := some 26) (v := ?mv22) rfl rfl (by kernel_rfl) (by kernel_rfl) (by kernel_rfl) (fun _ _ _ h => h) (Or.inl ⟨by rfl, ?my22⟩) hs ?mg22
          case my22 => (intro z hSz; (have e0 := hSz.cell 0; have e1 := hSz.cell 1; have e2 := hSz.cell 2; have e3 := hSz.cell 3; simp at e0 e1 e2 e3); go_simp; (try with_reducible rfl))
          try simp only [Act.put, List.setIfInBounds_toArray, List.set_cons_zero, List.set_cons_succ]
          refine wpAnyH_ready (rs := [17]) (by kernel_rfl) (by simp) ?_
          refine AllReadyH.cons rfl (fun K' hK' => ?_) AllReadyH.nil
          have RB := RES.out _ D
          obtain ⟨D2, RB2, F2⟩ := al_two (x := .int .i64 0) (y := .slice a1 (hdL z r m k).length c1) (BE.trans (D.mono BE.size)) RB KB.out.1
          have c0 := RB.cell 0
          have c1' := RB.cell 1
          have c2 := RB.frozen 0
          have c3 := RB.frozen 1
          simp at c0 c1'
          go_simp
          refine hK'.out _ _ (hs.fr F2 (by omega)) (fun hs => ?_)
          clear hK' K'
          try simp only [Act.put, List.setIfInBounds_toArray, List.set_cons_zero, List.set_cons_succ]
          refine wpAnyH_done (by kernel_rfl) (NoPanic.normal ?_) _
          have OF := own_fr OB F2 (fun g e1 e2 => by have := OL g e1; have := KB.out.2.1; omega)
          clear OB OL RB c0 c1' c2 c3 hs D SU F2
          obtain ⟨A6, h6⟩ := abs_wS RB2
          rw [← h6] at RB2 D2 OF
          simp only [← h6]
          clear h6
          have r0 := RB2.cell 0
          have r1 := RB2.cell 1
          have r9 := RB2.lt
          simp at r0 r1
          go_wp2
          refine bodyPost_ret (v := .agg #[.int .i64 0, .slice a1 (hdL z r m k).length c1]) (by simp [results, Tryz.results8, go_sem, r0, r1]) rfl ⟨a1, c1, rfl, OF, D2⟩

end Go.Proofs.YtffidkoejlebeaaGreatDoor
