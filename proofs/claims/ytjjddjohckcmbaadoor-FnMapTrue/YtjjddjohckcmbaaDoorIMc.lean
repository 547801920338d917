/- Contracts: the program's walk down two rises of a map. Contracts: where the panic of a walk down two rises is met; the program's MapClash. -/
import Derived.Test.YtjjddjohckcmbaaDoorIAcS
import Derived.Test.YtjjddjohckcmbaaDoorIWk
import Derived.Test.YtjjddjohckcmbaaDoorRegB
import Derived.Laws.CopyOwn
import Derived.Deep.DeepCutAuto
import Derived.Deep.RegionHeld2
import Derived.Deep.RegionHeld3
import Derived.Test.YtjjddjohckcmbaaDoorCOr
import Derived.Test.YtjjddjohckcmbaaDoorSClM
namespace Go.Proofs.YtjjddjohckcmbaaDoor
open Go.ChangeShapes Go.WideShapes Go.ChangeAt Go.RowKit
set_option maxRecDepth 100000
set_option linter.unusedVariables false
set_option linter.unusedSimpArgs false

/-- The clash of two rises from level i on down. -/
def rwC (k : Int) (zs p ys q : List Int) : Nat → Cl
  | 0 => lookC zs ys
  | i + 1 => ndC (ndQ k (sumL zs) p i).1 (ndQ k (sumL zs) p i).2 (ndQ k (sumL ys) q i).1 (ndQ k (sumL ys) q i).2 <|> rwC k zs p ys q i
theorem rwC_mp {l : List Sl} {k v : Int} {t : Bool} {p : List Int} : ∀ i, i ≤ 6 → rwC k (lfB k t v) p (slLeaf l k) (mpP l k) i = mpK l k t v p i
  | 0, _ => rfl
  | i + 1, h => by
    unfold rwC mpK
    rw [rwC_mp i (by omega), ndQ_path (by omega)]

theorem nd_at (f : Nat → Int × Int) {j : Nat} (hj : j < 6) : (ndA f 6)[j * 3]? = some (.int .i64 (f j).1) ∧ (ndA f 6)[j * 3 + 1]? = some (.int .i64 (f j).2) ∧ (ndA f 6)[j * 3 + 2]? = some (.bool false) := by
  have : j = 0 ∨ j = 1 ∨ j = 2 ∨ j = 3 ∨ j = 4 ∨ j = 5 := by omega
  rcases this with rfl | rfl | rfl | rfl | rfl | rfl <;> exact ⟨rfl, rfl, rfl⟩
theorem nd_one (f : Nat → Int × Int) : (ndA f 6).all (·.oneCell') = true := by kernel_rfl
/-- How a walk ends whose clash may lie in memory that there was ahead of it: from B on, below N or new. -/
def WkB (B N : Nat) (x : Cl) (w : World) (e : Ending) (w' : World) : Prop :=
  Below w.heap.size w w' ∧ ((x = none ∧ e = .returned (.tuple #[])) ∨ ∃ y a1 c1 a2 c2, x = some y ∧ e = .panicked [{ v := .iface 45 (.agg #[.bool true, .slice a1 (y).1.length c1, .slice a2 (y).2.length c2]), recovered := false }] ∧ OwnC w' B a1 a2 c1 c2 y.1 y.2 ∧ ∀ a, a1 = some a ∨ a2 = some a → a.block < N ∨ w.heap.size ≤ a.block)
theorem OwnC.new {w w' : World} {a1 a2 : Option Addr} {c1 c2 : Nat} {xs ys : List Int} (h : OwnC w' w.heap.size a1 a2 c1 c2 xs ys) : ∀ a, a1 = some a ∨ a2 = some a → w.heap.size ≤ a.block := by
  rintro a (e | e)
  · exact own_base h.one a e
  · exact own_base h.two a e
theorem OwnC.old {w : World} {base : Nat} {a1 a2 : Option Addr} {c1 c2 : Nat} {xs ys : List Int} (h : OwnC w base a1 a2 c1 c2 xs ys) : ∀ a, a1 = some a ∨ a2 = some a → a.block < w.heap.size := by
  rintro a (e | e)
  · exact own_lt h.one a e
  · exact own_lt h.two a e
theorem OwnC.setNe {w : World} {base : Nat} {a1 a2 : Option Addr} {c1 c2 : Nat} {xs ys : List Int} (h : OwnC w base a1 a2 c1 c2 xs ys) (p : Addr) (u : Value) (hp : ∀ a, a1 = some a ∨ a2 = some a → a.block ≠ p.block) : OwnC (w.setCell p u) base a1 a2 c1 c2 xs ys :=
  ⟨own_blk h.one (fun x e => Below.heap_setCell _ _ _ _ (hp x (.inl e))), own_blk h.two (fun x e => Below.heap_setCell _ _ _ _ (hp x (.inr e))), h.apart⟩

set_option maxHeartbeats 8000000 in
theorem riseWalk1_any (B N pa pb : Nat) (key : Int) (la lb : Option Addr) (lc1 lc2 : Nat) (zs ys : List Int) (g1 o1 c1 g2 o2 c2 : Nat) (p q : List Int) (w : World) (hT : Tab w) (hk : 0 ≤ key ∧ key ≤ 63) (hOC : OwnC w B la lb lc1 lc2 zs ys) (hB : B ≤ w.heap.size) (hN : ∀ a, la = some a ∨ lb = some a → a.block < N) (hzs : Has w .u8 la zs.length zs) (hys : Has w .u8 lb ys.length ys) (l1 : zs.length ≤ 4) (l2 : ys.length ≤ 4) (hp : Has w .i64 (some ⟨g1, o1, none⟩) 6 p) (hq : Has w .i64 (some ⟨g2, o2, none⟩) 6 q) (hap : allS p = true) (haq : allS q = true) (RA : Blk w pa #[.int .i64 key, .slice la zs.length lc1, .slice (some ⟨g1, o1, none⟩) 6 c1] 80) (RB : Blk w pb #[.int .i64 key, .slice lb ys.length lc2, .slice (some ⟨g2, o2, none⟩) 6 c2] 80) :
    Calls Tryd.prog 99 #[.pointer (some ⟨pa, 0, none⟩), .pointer (some ⟨pb, 0, none⟩)] w (WkB B N (rwC key zs p ys q 6) w) := by
  have TH : Hid (∀ u : World, Below w.heap.size w u → Tab u) := fun u hu => hT.below hu (Nat.le_refl _)
  have ND1 : Hid (∀ u : World, Below w.heap.size w u → Calls Tryd.prog 92 #[.agg #[.int .i64 key, .slice la zs.length lc1, .slice (some ⟨g1, o1, none⟩) 6 c1]] u fun r w' => r = .returned (.agg (ndA (ndQ key (sumL zs) p) 6)) ∧ Below u.heap.size u w') := fun u hu => nodes_any key la lc1 zs g1 o1 c1 p u (TH.out u hu) hk (hzs.below hu (Nat.le_refl _)) l1 (hp.below hu (Nat.le_refl _)) hap
  have ND2 : Hid (∀ u : World, Below w.heap.size w u → Calls Tryd.prog 92 #[.agg #[.int .i64 key, .slice lb ys.length lc2, .slice (some ⟨g2, o2, none⟩) 6 c2]] u fun r w' => r = .returned (.agg (ndA (ndQ key (sumL ys) q) 6)) ∧ Below u.heap.size u w') := fun u hu => nodes_any key lb lc2 ys g2 o2 c2 q u (TH.out u hu) hk (hys.below hu (Nat.le_refl _)) l2 (hq.below hu (Nat.le_refl _)) haq
  have OLD : Hid (∀ wx : World, Below w.heap.size w wx → (wx.cell? ⟨pa, 0, none⟩ = some (.int .i64 key) ∧ wx.cell? ⟨pa, 1, none⟩ = some (.slice la zs.length lc1) ∧ wx.cell? ⟨pa, 2, none⟩ = some (.slice (some ⟨g1, o1, none⟩) 6 c1)) ∧ (wx.cell? ⟨pb, 0, none⟩ = some (.int .i64 key) ∧ wx.cell? ⟨pb, 1, none⟩ = some (.slice lb ys.length lc2) ∧ wx.cell? ⟨pb, 2, none⟩ = some (.slice (some ⟨g2, o2, none⟩) 6 c2))) := fun wx h => by
    have A := RA.below h RA.lt
    have B := RB.below h RB.lt
    exact ⟨⟨(A.cell 0).trans rfl, (A.cell 1).trans rfl, (A.cell 2).trans rfl⟩, ⟨(B.cell 0).trans rfl, (B.cell 1).trans rfl, (B.cell 2).trans rfl⟩⟩
  have LK : Hid (∀ u : World, Below w.heap.size w u → Calls Tryd.prog 101 #[.slice la zs.length lc1, .slice lb ys.length lc2] u fun e w' => Below u.heap.size u w' ∧ ((lookC zs ys = none ∧ e = .returned (.tuple #[])) ∨ (lookC zs ys = some (zs, ys) ∧ e = .panicked [{ v := .iface 45 (.agg #[.bool true, .slice la ((zs, ys)).1.length lc1, .slice lb ((zs, ys)).2.length lc2]), recovered := false }] ∧ OwnC w' B la lb lc1 lc2 zs ys))) := fun u hu => (lookIn_any la lb lc1 lc2 zs ys u (hzs.below hu (Nat.le_refl _)) (hys.below hu (Nat.le_refl _)) (by omega) (by omega)).mono fun e w' ⟨hb, h⟩ => ⟨hb, h.imp id (fun ⟨h1, h2⟩ => ⟨h1, h2, (hOC.below hu).below hb⟩)⟩
  have NH : Hid (∀ a, la = some a ∨ lb = some a → a.block < N) := hN
  have B1 : Hid (∀ j, (0 ≤ (ndQ key (sumL zs) p j).1 ∧ (ndQ key (sumL zs) p j).1 ≤ 65520) ∧ 0 ≤ (ndQ key (sumL zs) p j).2 ∧ (ndQ key (sumL zs) p j).2 ≤ 65520) := fun j => ndQ_bd key (sum_bd zs) hap j
  have B2 : Hid (∀ j, (0 ≤ (ndQ key (sumL ys) q j).1 ∧ (ndQ key (sumL ys) q j).1 ≤ 65520) ∧ 0 ≤ (ndQ key (sumL ys) q j).2 ∧ (ndQ key (sumL ys) q j).2 ≤ 65520) := fun j => ndQ_bd key (sum_bd ys) haq j
  have R0 : Hid (rwC key zs p ys q 0 = lookC zs ys) := rfl
  have RS : Hid (∀ i, rwC key zs p ys q (i + 1) = (ndC (ndQ key (sumL zs) p i).1 (ndQ key (sumL zs) p i).2 (ndQ key (sumL ys) q i).1 (ndQ key (sumL ys) q i).2 <|> rwC key zs p ys q i)) := fun i => rfl
  generalize rwC key zs p ys q = rw at *
  generalize ndQ key (sumL zs) p = f at *
  generalize ndQ key (sumL ys) q = g at *
  generalize lookC zs ys = LC at *
  clear hT hk hOC hzs hys l1 l2 hp hq hap haq RA RB hN
  go_enter Tryd.func99, Tryd.ntmps99
  go_upto_region 0 with fail
  go_cut [2, 3] (fun s2 s3 wx => ∃ VA VB : Nat, s2 = .pointer (some ⟨VA, 0, none⟩) ∧ s3 = .pointer (some ⟨VB, 0, none⟩) ∧ Blk wx VA (ndA f 6) 122 ∧ Blk wx VB (ndA g 6) 122 ∧ Below w.heap.size w wx)
  case first =>
    refine wp_region_noPanic ?_
    refine wp_region_held_drew (S := fun u => Below w.heap.size w u) (by kernel_rfl) ((Below.refl w.heap.size w).drew) (fun hs => ?_)
    obtain ⟨XD, hXD⟩ := al_w hs
    rw [← hXD] at hs
    simp only [← hXD]
    clear hXD
    refine take_at (i := 0) (d := some 6) (v := ?mv1) rfl rfl (by kernel_rfl) (by kernel_rfl) (by kernel_rfl) (fun _ _ _ h => h) (Or.inl ⟨by rfl, ?my1⟩) hs ?mg1
    case my1 => (intro z hSz; (obtain ⟨⟨e0, e1, e2⟩, ⟨e3, e4, e5⟩⟩ := OLD.out _ hSz); go_simp; (try with_reducible rfl))
    try simp only [Act.put, List.setIfInBounds_toArray, List.set_cons_zero, List.set_cons_succ]
    refine take_at (i := 2) (d := some 8) (v := ?mv2) rfl rfl (by kernel_rfl) (by kernel_rfl) (by kernel_rfl) (fun _ _ _ h => h) (Or.inl ⟨by rfl, ?my2⟩) hs ?mg2
    case my2 => (intro z hSz; (obtain ⟨⟨e0, e1, e2⟩, ⟨e3, e4, e5⟩⟩ := OLD.out _ hSz); go_simp; (try with_reducible rfl))
    try simp only [Act.put, List.setIfInBounds_toArray, List.set_cons_zero, List.set_cons_succ]
    refine wpAnyH_ready (rs := [1, 4, 5]) (by kernel_rfl) (by simp) ?_
    refine AllReadyH.cons rfl (fun K' hK' => ?_) (AllReadyH.cons rfl (fun K' hK' => ?_) (AllReadyH.cons rfl (fun K' hK' => ?_) AllReadyH.nil))
    · go_simp
      refine (ND1.out _ hs).mono ?_
      rintro _ ua ⟨rfl, hba⟩
      refine hK'.out _ _ (hs.trans (hba.mono hs.size)) (fun hs => ?_)
      clear hK' K'
      try simp only [Act.put, List.setIfInBounds_toArray, List.set_cons_zero, List.set_cons_succ]
      (try replace PA := PA.below hba PA.lt)
      (try replace PB := PB.below hba PB.lt)
      refine wpAnyH_ready (rs := [3, 4, 5]) (by kernel_rfl) (by simp) ?_
      refine AllReadyH.cons rfl (fun K' hK' => ?_) (AllReadyH.cons rfl (fun K' hK' => ?_) (AllReadyH.cons rfl (fun K' hK' => ?_) AllReadyH.nil))
      · go_simp
        refine (ND2.out _ hs).mono ?_
        rintro _ ub ⟨rfl, hbb⟩
        refine hK'.out _ _ (hs.trans (hbb.mono hs.size)) (fun hs => ?_)
        clear hK' K'
        try simp only [Act.put, List.setIfInBounds_toArray, List.set_cons_zero, List.set_cons_succ]
        (try replace PA := PA.below hbb PA.lt)
        (try replace PB := PB.below hbb PB.lt)
        refine wpAnyH_ready (rs := [4, 5]) (by kernel_rfl) (by simp) ?_
        refine AllReadyH.cons rfl (fun K' hK' => ?_) (AllReadyH.cons rfl (fun K' hK' => ?_) AllReadyH.nil)
        · have nVA := hs.size
          (try have NE := al_ne PB)
          go_simp
          refine hK'.out _ _ (hs.alloc hs.size _) (fun hs => ?_)
          clear hK' K'
          try simp only [Act.put, List.setIfInBounds_toArray, List.set_cons_zero, List.set_cons_succ]
          have PA := al_blk hs
          (try replace PB := al_keep hs PB)
          obtain ⟨A6, h6⟩ := al_w hs
          rw [← h6] at hs PA
          (try rw [← h6] at PB)
          simp only [← h6]
          clear h6
          obtain ⟨VA, hV⟩ := al_b PA
          rw [← hV] at PA nVA
          (try rw [← hV] at NE)
          simp only [← hV]
          clear hV
          refine wpAnyH_ready (rs := [5]) (by kernel_rfl) (by simp) ?_
          refine AllReadyH.cons rfl (fun K' hK' => ?_) AllReadyH.nil
          have nVB := hs.size
          (try have NE := al_ne PA)
          go_simp
          refine hK'.out _ _ (hs.alloc hs.size _) (fun hs => ?_)
          clear hK' K'
          try simp only [Act.put, List.setIfInBounds_toArray, List.set_cons_zero, List.set_cons_succ]
          have PB := al_blk hs
          (try replace PA := al_keep hs PA)
          obtain ⟨A6, h6⟩ := al_w hs
          rw [← h6] at hs PB
          (try rw [← h6] at PA)
          simp only [← h6]
          clear h6
          obtain ⟨VB, hV⟩ := al_b PB
          rw [← hV] at PB nVB
          (try rw [← hV] at NE)
          simp only [← hV]
          clear hV
          refine wpAnyH_ready (rs := [6]) (by kernel_rfl) (by simp) ?_
          refine AllReadyH.cons rfl (fun K' hK' => ?_) AllReadyH.nil
          refine wp_store_row 122 _ _ rfl VA (ndA f 6) rfl rfl 122 _ PA rfl rfl (nd_one f) ?_
          refine hK'.out _ _ (below_setRow hs nVA _) (fun hs => ?_)
          clear hK' K'
          try simp only [Act.put, List.setIfInBounds_toArray, List.set_cons_zero, List.set_cons_succ]
          (try replace PB := row_keep (cs := ndA f 6) (by first | exact NE | exact Ne.symm NE) PB)
          replace PA := row_new (cs := ndA f 6) PA
          obtain ⟨A7, h7⟩ := al_w hs
          rw [← h7] at hs PA
          (try rw [← h7] at PB)
          simp only [← h7]
          clear h7
          refine wpAnyH_ready (rs := [7]) (by kernel_rfl) (by simp) ?_
          refine AllReadyH.cons rfl (fun K' hK' => ?_) AllReadyH.nil
          refine wp_store_row 122 _ _ rfl VB (ndA g 6) rfl rfl 122 _ PB rfl rfl (nd_one g) ?_
          refine hK'.out _ _ (below_setRow hs nVB _) (fun hs => ?_)
          clear hK' K'
          try simp only [Act.put, List.setIfInBounds_toArray, List.set_cons_zero, List.set_cons_succ]
          (try replace PA := row_keep (cs := ndA g 6) (by first | exact NE | exact Ne.symm NE) PA)
          replace PB := row_new (cs := ndA g 6) PB
          obtain ⟨A7, h7⟩ := al_w hs
          rw [← h7] at hs PB
          (try rw [← h7] at PA)
          simp only [← h7]
          clear h7
          refine wpAnyH_done (by kernel_rfl) (NoPanic.normal ?_) _
          clear NE
          go_wp2_with fail
          go_meet
          exact ⟨_, _, rfl, rfl, PA, PB, hs⟩
        · have nVB := hs.size
          (try have NE := al_ne PA)
          go_simp
          refine hK'.out _ _ (hs.alloc hs.size _) (fun hs => ?_)
          clear hK' K'
          try simp only [Act.put, List.setIfInBounds_toArray, List.set_cons_zero, List.set_cons_succ]
          have PB := al_blk hs
          (try replace PA := al_keep hs PA)
          obtain ⟨A6, h6⟩ := al_w hs
          rw [← h6] at hs PB
          (try rw [← h6] at PA)
          simp only [← h6]
          clear h6
          obtain ⟨VB, hV⟩ := al_b PB
          rw [← hV] at PB nVB
          (try rw [← hV] at NE)
          simp only [← hV]
          clear hV
          refine wpAnyH_ready (rs := [4]) (by kernel_rfl) (by simp) ?_
          refine AllReadyH.cons rfl (fun K' hK' => ?_) AllReadyH.nil
          have nVA := hs.size
          (try have NE := al_ne PB)
          go_simp
          refine hK'.out _ _ (hs.alloc hs.size _) (fun hs => ?_)
          clear hK' K'
          try simp only [Act.put, List.setIfInBounds_toArray, List.set_cons_zero, List.set_cons_succ]
          have PA := al_blk hs
          (try replace PB := al_keep hs PB)
          obtain ⟨A6, h6⟩ := al_w hs
          rw [← h6] at hs PA
          (try rw [← h6] at PB)
          simp only [← h6]
          clear h6
          obtain ⟨VA, hV⟩ := al_b PA
          rw [← hV] at PA nVA
          (try rw [← hV] at NE)
          simp only [← hV]
          clear hV
          refine wpAnyH_ready (rs := [6]) (by kernel_rfl) (by simp) ?_
          refine AllReadyH.cons rfl (fun K' hK' => ?_) AllReadyH.nil
          refine wp_store_row 122 _ _ rfl VA (ndA f 6) rfl rfl 122 _ PA rfl rfl (nd_one f) ?_
          refine hK'.out _ _ (below_setRow hs nVA _) (fun hs => ?_)
          clear hK' K'
          try simp only [Act.put, List.setIfInBounds_toArray, List.set_cons_zero, List.set_cons_succ]
          (try replace PB := row_keep (cs := ndA f 6) (by first | exact NE | exact Ne.symm NE) PB)
          replace PA := row_new (cs := ndA f 6) PA
          obtain ⟨A7, h7⟩ := al_w hs
          rw [← h7] at hs PA
          (try rw [← h7] at PB)
          simp only [← h7]
          clear h7
          refine wpAnyH_ready (rs := [7]) (by kernel_rfl) (by simp) ?_
          refine AllReadyH.cons rfl (fun K' hK' => ?_) AllReadyH.nil
          refine wp_store_row 122 _ _ rfl VB (ndA g 6) rfl rfl 122 _ PB rfl rfl (nd_one g) ?_
          refine hK'.out _ _ (below_setRow hs nVB _) (fun hs => ?_)
          clear hK' K'
          try simp only [Act.put, List.setIfInBounds_toArray, List.set_cons_zero, List.set_cons_succ]
          (try replace PA := row_keep (cs := ndA g 6) (by first | exact NE | exact Ne.symm NE) PA)
          replace PB := row_new (cs := ndA g 6) PB
          obtain ⟨A7, h7⟩ := al_w hs
          rw [← h7] at hs PB
          (try rw [← h7] at PA)
          simp only [← h7]
          clear h7
          refine wpAnyH_done (by kernel_rfl) (NoPanic.normal ?_) _
          clear NE
          go_wp2_with fail
          go_meet
          exact ⟨_, _, rfl, rfl, PA, PB, hs⟩
      · have nVA := hs.size
        (try have NE := al_ne PB)
        go_simp
        refine hK'.out _ _ (hs.alloc hs.size _) (fun hs => ?_)
        clear hK' K'
        try simp only [Act.put, List.setIfInBounds_toArray, List.set_cons_zero, List.set_cons_succ]
        have PA := al_blk hs
        (try replace PB := al_keep hs PB)
        obtain ⟨A6, h6⟩ := al_w hs
        rw [← h6] at hs PA
        (try rw [← h6] at PB)
        simp only [← h6]
        clear h6
        obtain ⟨VA, hV⟩ := al_b PA
        rw [← hV] at PA nVA
        (try rw [← hV] at NE)
        simp only [← hV]
        clear hV
        refine wpAnyH_ready (rs := [3, 5]) (by kernel_rfl) (by simp) ?_
        refine AllReadyH.cons rfl (fun K' hK' => ?_) (AllReadyH.cons rfl (fun K' hK' => ?_) AllReadyH.nil)
        · go_simp
          refine (ND2.out _ hs).mono ?_
          rintro _ ub ⟨rfl, hbb⟩
          refine hK'.out _ _ (hs.trans (hbb.mono hs.size)) (fun hs => ?_)
          clear hK' K'
          try simp only [Act.put, List.setIfInBounds_toArray, List.set_cons_zero, List.set_cons_succ]
          (try replace PA := PA.below hbb PA.lt)
          (try replace PB := PB.below hbb PB.lt)
          refine wpAnyH_ready (rs := [5]) (by kernel_rfl) (by simp) ?_
          refine AllReadyH.cons rfl (fun K' hK' => ?_) AllReadyH.nil
          have nVB := hs.size
          (try have NE := al_ne PA)
          go_simp
          refine hK'.out _ _ (hs.alloc hs.size _) (fun hs => ?_)
          clear hK' K'
          try simp only [Act.put, List.setIfInBounds_toArray, List.set_cons_zero, List.set_cons_succ]
          have PB := al_blk hs
          (try replace PA := al_keep hs PA)
          obtain ⟨A6, h6⟩ := al_w hs
          rw [← h6] at hs PB
          (try rw [← h6] at PA)
          simp only [← h6]
          clear h6
          obtain ⟨VB, hV⟩ := al_b PB
          rw [← hV] at PB nVB
          (try rw [← hV] at NE)
          simp only [← hV]
          clear hV
          refine wpAnyH_ready (rs := [6]) (by kernel_rfl) (by simp) ?_
          refine AllReadyH.cons rfl (fun K' hK' => ?_) AllReadyH.nil
          refine wp_store_row 122 _ _ rfl VA (ndA f 6) rfl rfl 122 _ PA rfl rfl (nd_one f) ?_
          refine hK'.out _ _ (below_setRow hs nVA _) (fun hs => ?_)
          clear hK' K'
          try simp only [Act.put, List.setIfInBounds_toArray, List.set_cons_zero, List.set_cons_succ]
          (try replace PB := row_keep (cs := ndA f 6) (by first | exact NE | exact Ne.symm NE) PB)
          replace PA := row_new (cs := ndA f 6) PA
          obtain ⟨A7, h7⟩ := al_w hs
          rw [← h7] at hs PA
          (try rw [← h7] at PB)
          simp only [← h7]
          clear h7
          refine wpAnyH_ready (rs := [7]) (by kernel_rfl) (by simp) ?_
          refine AllReadyH.cons rfl (fun K' hK' => ?_) AllReadyH.nil
          refine wp_store_row 122 _ _ rfl VB (ndA g 6) rfl rfl 122 _ PB rfl rfl (nd_one g) ?_
          refine hK'.out _ _ (below_setRow hs nVB _) (fun hs => ?_)
          clear hK' K'
          try simp only [Act.put, List.setIfInBounds_toArray, List.set_cons_zero, List.set_cons_succ]
          (try replace PA := row_keep (cs := ndA g 6) (by first | exact NE | exact Ne.symm NE) PA)
          replace PB := row_new (cs := ndA g 6) PB
          obtain ⟨A7, h7⟩ := al_w hs
          rw [← h7] at hs PB
          (try rw [← h7] at PA)
          simp only [← h7]
          clear h7
          refine wpAnyH_done (by kernel_rfl) (NoPanic.normal ?_) _
          clear NE
          go_wp2_with fail
          go_meet
          exact ⟨_, _, rfl, rfl, PA, PB, hs⟩
        · have nVB := hs.size
          (try have NE := al_ne PA)
          go_simp
          refine hK'.out _ _ (hs.alloc hs.size _) (fun hs => ?_)
          clear hK' K'
          try simp only [Act.put, List.setIfInBounds_toArray, List.set_cons_zero, List.set_cons_succ]
          have PB := al_blk hs
          (try replace PA := al_keep hs PA)
          obtain ⟨A6, h6⟩ := al_w hs
          rw [← h6] at hs PB
          (try rw [← h6] at PA)
          simp only [← h6]
          clear h6
          obtain ⟨VB, hV⟩ := al_b PB
          rw [← hV] at PB nVB
          (try rw [← hV] at NE)
          simp only [← hV]
          clear hV
          refine wpAnyH_ready (rs := [3]) (by kernel_rfl) (by simp) ?_
          refine AllReadyH.cons rfl (fun K' hK' => ?_) AllReadyH.nil
          go_simp
          refine (ND2.out _ hs).mono ?_
          rintro _ ub ⟨rfl, hbb⟩
          refine hK'.out _ _ (hs.trans (hbb.mono hs.size)) (fun hs => ?_)
          clear hK' K'
          try simp only [Act.put, List.setIfInBounds_toArray, List.set_cons_zero, List.set_cons_succ]
          (try replace PA := PA.below hbb PA.lt)
          (try replace PB := PB.below hbb PB.lt)
          refine wpAnyH_ready (rs := [6]) (by kernel_rfl) (by simp) ?_
          refine AllReadyH.cons rfl (fun K' hK' => ?_) AllReadyH.nil
          refine wp_store_row 122 _ _ rfl VA (ndA f 6) rfl rfl 122 _ PA rfl rfl (nd_one f) ?_
          refine hK'.out _ _ (below_setRow hs nVA _) (fun hs => ?_)
          clear hK' K'
          try simp only [Act.put, List.setIfInBounds_toArray, List.set_cons_zero, List.set_cons_succ]
          (try replace PB := row_keep (cs := ndA f 6) (by first | exact NE | exact Ne.symm NE) PB)
          replace PA := row_new (cs := ndA f 6) PA
          obtain ⟨A7, h7⟩ := al_w hs
          rw [← h7] at hs PA
          (try rw [← h7] at PB)
          simp only [← h7]
          clear h7
          refine wpAnyH_ready (rs := [7]) (by kernel_rfl) (by simp) ?_
          refine AllReadyH.cons rfl (fun K' hK' => ?_) AllReadyH.nil
          refine wp_store_row 122 _ _ rfl VB (ndA g 6) rfl rfl 122 _ PB rfl rfl (nd_one g) ?_
          refine hK'.out _ _ (below_setRow hs nVB _) (fun hs => ?_)
          clear hK' K'
          try simp only [Act.put, List.setIfInBounds_toArray, List.set_cons_zero, List.set_cons_succ]
          (try replace PA := row_keep (cs := ndA g 6) (by first | exact NE | exact Ne.symm NE) PA)
          replace PB := row_new (cs := ndA g 6) PB
          obtain ⟨A7, h7⟩ := al_w hs
          rw [← h7] at hs PB
          (try rw [← h7] at PA)
          simp only [← h7]
          clear h7
          refine wpAnyH_done (by kernel_rfl) (NoPanic.normal ?_) _
          clear NE
          go_wp2_with fail
          go_meet
          exact ⟨_, _, rfl, rfl, PA, PB, hs⟩
      · have nVB := hs.size
        (try have NE := al_ne PA)
        go_simp
        refine hK'.out _ _ (hs.alloc hs.size _) (fun hs => ?_)
        clear hK' K'
        try simp only [Act.put, List.setIfInBounds_toArray, List.set_cons_zero, List.set_cons_succ]
        have PB := al_blk hs
        (try replace PA := al_keep hs PA)
        obtain ⟨A6, h6⟩ := al_w hs
        rw [← h6] at hs PB
        (try rw [← h6] at PA)
        simp only [← h6]
        clear h6
        obtain ⟨VB, hV⟩ := al_b PB
        rw [← hV] at PB nVB
        (try rw [← hV] at NE)
        simp only [← hV]
        clear hV
        refine wpAnyH_ready (rs := [3, 4]) (by kernel_rfl) (by simp) ?_
        refine AllReadyH.cons rfl (fun K' hK' => ?_) (AllReadyH.cons rfl (fun K' hK' => ?_) AllReadyH.nil)
        · go_simp
          refine (ND2.out _ hs).mono ?_
          rintro _ ub ⟨rfl, hbb⟩
          refine hK'.out _ _ (hs.trans (hbb.mono hs.size)) (fun hs => ?_)
          clear hK' K'
          try simp only [Act.put, List.setIfInBounds_toArray, List.set_cons_zero, List.set_cons_succ]
          (try replace PA := PA.below hbb PA.lt)
          (try replace PB := PB.below hbb PB.lt)
          refine wpAnyH_ready (rs := [4]) (by kernel_rfl) (by simp) ?_
          refine AllReadyH.cons rfl (fun K' hK' => ?_) AllReadyH.nil
          have nVA := hs.size
          (try have NE := al_ne PB)
          go_simp
          refine hK'.out _ _ (hs.alloc hs.size _) (fun hs => ?_)
          clear hK' K'
          try simp only [Act.put, List.setIfInBounds_toArray, List.set_cons_zero, List.set_cons_succ]
          have PA := al_blk hs
          (try replace PB := al_keep hs PB)
          obtain ⟨A6, h6⟩ := al_w hs
          rw [← h6] at hs PA
          (try rw [← h6] at PB)
          simp only [← h6]
          clear h6
          obtain ⟨VA, hV⟩ := al_b PA
          rw [← hV] at PA nVA
          (try rw [← hV] at NE)
          simp only [← hV]
          clear hV
          refine wpAnyH_ready (rs := [6]) (by kernel_rfl) (by simp) ?_
          refine AllReadyH.cons rfl (fun K' hK' => ?_) AllReadyH.nil
          refine wp_store_row 122 _ _ rfl VA (ndA f 6) rfl rfl 122 _ PA rfl rfl (nd_one f) ?_
          refine hK'.out _ _ (below_setRow hs nVA _) (fun hs => ?_)
          clear hK' K'
          try simp only [Act.put, List.setIfInBounds_toArray, List.set_cons_zero, List.set_cons_succ]
          (try replace PB := row_keep (cs := ndA f 6) (by first | exact NE | exact Ne.symm NE) PB)
          replace PA := row_new (cs := ndA f 6) PA
          obtain ⟨A7, h7⟩ := al_w hs
          rw [← h7] at hs PA
          (try rw [← h7] at PB)
          simp only [← h7]
          clear h7
          refine wpAnyH_ready (rs := [7]) (by kernel_rfl) (by simp) ?_
          refine AllReadyH.cons rfl (fun K' hK' => ?_) AllReadyH.nil
          refine wp_store_row 122 _ _ rfl VB (ndA g 6) rfl rfl 122 _ PB rfl rfl (nd_one g) ?_
          refine hK'.out _ _ (below_setRow hs nVB _) (fun hs => ?_)
          clear hK' K'
          try simp only [Act.put, List.setIfInBounds_toArray, List.set_cons_zero, List.set_cons_succ]
          (try replace PA := row_keep (cs := ndA g 6) (by first | exact NE | exact Ne.symm NE) PA)
          replace PB := row_new (cs := ndA g 6) PB
          obtain ⟨A7, h7⟩ := al_w hs
          rw [← h7] at hs PB
          (try rw [← h7] at PA)
          simp only [← h7]
          clear h7
          refine wpAnyH_done (by kernel_rfl) (NoPanic.normal ?_) _
          clear NE
          go_wp2_with fail
          go_meet
          exact ⟨_, _, rfl, rfl, PA, PB, hs⟩
        · have nVA := hs.size
          (try have NE := al_ne PB)
          go_simp
          refine hK'.out _ _ (hs.alloc hs.size _) (fun hs => ?_)
          clear hK' K'
          try simp only [Act.put, List.setIfInBounds_toArray, List.set_cons_zero, List.set_cons_succ]
          have PA := al_blk hs
          (try replace PB := al_keep hs PB)
          obtain ⟨A6, h6⟩ := al_w hs
          rw [← h6] at hs PA
          (try rw [← h6] at PB)
          simp only [← h6]
          clear h6
          obtain ⟨VA, hV⟩ := al_b PA
          rw [← hV] at PA nVA
          (try rw [← hV] at NE)
          simp only [← hV]
          clear hV
          refine wpAnyH_ready (rs := [3]) (by kernel_rfl) (by simp) ?_
          refine AllReadyH.cons rfl (fun K' hK' => ?_) AllReadyH.nil
          go_simp
          refine (ND2.out _ hs).mono ?_
          rintro _ ub ⟨rfl, hbb⟩
          refine hK'.out _ _ (hs.trans (hbb.mono hs.size)) (fun hs => ?_)
          clear hK' K'
          try simp only [Act.put, List.setIfInBounds_toArray, List.set_cons_zero, List.set_cons_succ]
          (try replace PA := PA.below hbb PA.lt)
          (try replace PB := PB.below hbb PB.lt)
          refine wpAnyH_ready (rs := [6]) (by kernel_rfl) (by simp) ?_
          refine AllReadyH.cons rfl (fun K' hK' => ?_) AllReadyH.nil
          refine wp_store_row 122 _ _ rfl VA (ndA f 6) rfl rfl 122 _ PA rfl rfl (nd_one f) ?_
          refine hK'.out _ _ (below_setRow hs nVA _) (fun hs => ?_)
          clear hK' K'
          try simp only [Act.put, List.setIfInBounds_toArray, List.set_cons_zero, List.set_cons_succ]
          (try replace PB := row_keep (cs := ndA f 6) (by first | exact NE | exact Ne.symm NE) PB)
          replace PA := row_new (cs := ndA f 6) PA
          obtain ⟨A7, h7⟩ := al_w hs
          rw [← h7] at hs PA
          (try rw [← h7] at PB)
          simp only [← h7]
          clear h7
          refine wpAnyH_ready (rs := [7]) (by kernel_rfl) (by simp) ?_
          refine AllReadyH.cons rfl (fun K' hK' => ?_) AllReadyH.nil
          refine wp_store_row 122 _ _ rfl VB (ndA g 6) rfl rfl 122 _ PB rfl rfl (nd_one g) ?_
          refine hK'.out _ _ (below_setRow hs nVB _) (fun hs => ?_)
          clear hK' K'
          try simp only [Act.put, List.setIfInBounds_toArray, List.set_cons_zero, List.set_cons_succ]
          (try replace PA := row_keep (cs := ndA g 6) (by first | exact NE | exact Ne.symm NE) PA)
          replace PB := row_new (cs := ndA g 6) PB
          obtain ⟨A7, h7⟩ := al_w hs
          rw [← h7] at hs PB
          (try rw [← h7] at PA)
          simp only [← h7]
          clear h7
          refine wpAnyH_done (by kernel_rfl) (NoPanic.normal ?_) _
          clear NE
          go_wp2_with fail
          go_meet
          exact ⟨_, _, rfl, rfl, PA, PB, hs⟩
    · have nVA := hs.size
      (try have NE := al_ne PB)
      go_simp
      refine hK'.out _ _ (hs.alloc hs.size _) (fun hs => ?_)
      clear hK' K'
      try simp only [Act.put, List.setIfInBounds_toArray, List.set_cons_zero, List.set_cons_succ]
      have PA := al_blk hs
      (try replace PB := al_keep hs PB)
      obtain ⟨A6, h6⟩ := al_w hs
      rw [← h6] at hs PA
      (try rw [← h6] at PB)
      simp only [← h6]
      clear h6
      obtain ⟨VA, hV⟩ := al_b PA
      rw [← hV] at PA nVA
      (try rw [← hV] at NE)
      simp only [← hV]
      clear hV
      refine wpAnyH_ready (rs := [1, 5]) (by kernel_rfl) (by simp) ?_
      refine AllReadyH.cons rfl (fun K' hK' => ?_) (AllReadyH.cons rfl (fun K' hK' => ?_) AllReadyH.nil)
      · go_simp
        refine (ND1.out _ hs).mono ?_
        rintro _ ua ⟨rfl, hba⟩
        refine hK'.out _ _ (hs.trans (hba.mono hs.size)) (fun hs => ?_)
        clear hK' K'
        try simp only [Act.put, List.setIfInBounds_toArray, List.set_cons_zero, List.set_cons_succ]
        (try replace PA := PA.below hba PA.lt)
        (try replace PB := PB.below hba PB.lt)
        refine wpAnyH_ready (rs := [3, 5]) (by kernel_rfl) (by simp) ?_
        refine AllReadyH.cons rfl (fun K' hK' => ?_) (AllReadyH.cons rfl (fun K' hK' => ?_) AllReadyH.nil)
        · go_simp
          refine (ND2.out _ hs).mono ?_
          rintro _ ub ⟨rfl, hbb⟩
          refine hK'.out _ _ (hs.trans (hbb.mono hs.size)) (fun hs => ?_)
          clear hK' K'
          try simp only [Act.put, List.setIfInBounds_toArray, List.set_cons_zero, List.set_cons_succ]
          (try replace PA := PA.below hbb PA.lt)
          (try replace PB := PB.below hbb PB.lt)
          refine wpAnyH_ready (rs := [5]) (by kernel_rfl) (by simp) ?_
          refine AllReadyH.cons rfl (fun K' hK' => ?_) AllReadyH.nil
          have nVB := hs.size
          (try have NE := al_ne PA)
          go_simp
          refine hK'.out _ _ (hs.alloc hs.size _) (fun hs => ?_)
          clear hK' K'
          try simp only [Act.put, List.setIfInBounds_toArray, List.set_cons_zero, List.set_cons_succ]
          have PB := al_blk hs
          (try replace PA := al_keep hs PA)
          obtain ⟨A6, h6⟩ := al_w hs
          rw [← h6] at hs PB
          (try rw [← h6] at PA)
          simp only [← h6]
          clear h6
          obtain ⟨VB, hV⟩ := al_b PB
          rw [← hV] at PB nVB
          (try rw [← hV] at NE)
          simp only [← hV]
          clear hV
          refine wpAnyH_ready (rs := [6]) (by kernel_rfl) (by simp) ?_
          refine AllReadyH.cons rfl (fun K' hK' => ?_) AllReadyH.nil
          refine wp_store_row 122 _ _ rfl VA (ndA f 6) rfl rfl 122 _ PA rfl rfl (nd_one f) ?_
          refine hK'.out _ _ (below_setRow hs nVA _) (fun hs => ?_)
          clear hK' K'
          try simp only [Act.put, List.setIfInBounds_toArray, List.set_cons_zero, List.set_cons_succ]
          (try replace PB := row_keep (cs := ndA f 6) (by first | exact NE | exact Ne.symm NE) PB)
          replace PA := row_new (cs := ndA f 6) PA
          obtain ⟨A7, h7⟩ := al_w hs
          rw [← h7] at hs PA
          (try rw [← h7] at PB)
          simp only [← h7]
          clear h7
          refine wpAnyH_ready (rs := [7]) (by kernel_rfl) (by simp) ?_
          refine AllReadyH.cons rfl (fun K' hK' => ?_) AllReadyH.nil
          refine wp_store_row 122 _ _ rfl VB (ndA g 6) rfl rfl 122 _ PB rfl rfl (nd_one g) ?_
          refine hK'.out _ _ (below_setRow hs nVB _) (fun hs => ?_)
          clear hK' K'
          try simp only [Act.put, List.setIfInBounds_toArray, List.set_cons_zero, List.set_cons_succ]
          (try replace PA := row_keep (cs := ndA g 6) (by first | exact NE | exact Ne.symm NE) PA)
          replace PB := row_new (cs := ndA g 6) PB
          obtain ⟨A7, h7⟩ := al_w hs
          rw [← h7] at hs PB
          (try rw [← h7] at PA)
          simp only [← h7]
          clear h7
          refine wpAnyH_done (by kernel_rfl) (NoPanic.normal ?_) _
          clear NE
          go_wp2_with fail
          go_meet
          exact ⟨_, _, rfl, rfl, PA, PB, hs⟩
        · have nVB := hs.size
          (try have NE := al_ne PA)
          go_simp
          refine hK'.out _ _ (hs.alloc hs.size _) (fun hs => ?_)
          clear hK' K'
          try simp only [Act.put, List.setIfInBounds_toArray, List.set_cons_zero, List.set_cons_succ]
          have PB := al_blk hs
          (try replace PA := al_keep hs PA)
          obtain ⟨A6, h6⟩ := al_w hs
          rw [← h6] at hs PB
          (try rw [← h6] at PA)
          simp only [← h6]
          clear h6
          obtain ⟨VB, hV⟩ := al_b PB
          rw [← hV] at PB nVB
          (try rw [← hV] at NE)
          simp only [← hV]
          clear hV
          refine wpAnyH_ready (rs := [3]) (by kernel_rfl) (by simp) ?_
          refine AllReadyH.cons rfl (fun K' hK' => ?_) AllReadyH.nil
          go_simp
          refine (ND2.out _ hs).mono ?_
          rintro _ ub ⟨rfl, hbb⟩
          refine hK'.out _ _ (hs.trans (hbb.mono hs.size)) (fun hs => ?_)
          clear hK' K'
          try simp only [Act.put, List.setIfInBounds_toArray, List.set_cons_zero, List.set_cons_succ]
          (try replace PA := PA.below hbb PA.lt)
          (try replace PB := PB.below hbb PB.lt)
          refine wpAnyH_ready (rs := [6]) (by kernel_rfl) (by simp) ?_
          refine AllReadyH.cons rfl (fun K' hK' => ?_) AllReadyH.nil
          refine wp_store_row 122 _ _ rfl VA (ndA f 6) rfl rfl 122 _ PA rfl rfl (nd_one f) ?_
          refine hK'.out _ _ (below_setRow hs nVA _) (fun hs => ?_)
          clear hK' K'
          try simp only [Act.put, List.setIfInBounds_toArray, List.set_cons_zero, List.set_cons_succ]
          (try replace PB := row_keep (cs := ndA f 6) (by first | exact NE | exact Ne.symm NE) PB)
          replace PA := row_new (cs := ndA f 6) PA
          obtain ⟨A7, h7⟩ := al_w hs
          rw [← h7] at hs PA
          (try rw [← h7] at PB)
          simp only [← h7]
          clear h7
          refine wpAnyH_ready (rs := [7]) (by kernel_rfl) (by simp) ?_
          refine AllReadyH.cons rfl (fun K' hK' => ?_) AllReadyH.nil
          refine wp_store_row 122 _ _ rfl VB (ndA g 6) rfl rfl 122 _ PB rfl rfl (nd_one g) ?_
          refine hK'.out _ _ (below_setRow hs nVB _) (fun hs => ?_)
          clear hK' K'
          try simp only [Act.put, List.setIfInBounds_toArray, List.set_cons_zero, List.set_cons_succ]
          (try replace PA := row_keep (cs := ndA g 6) (by first | exact NE | exact Ne.symm NE) PA)
          replace PB := row_new (cs := ndA g 6) PB
          obtain ⟨A7, h7⟩ := al_w hs
          rw [← h7] at hs PB
          (try rw [← h7] at PA)
          simp only [← h7]
          clear h7
          refine wpAnyH_done (by kernel_rfl) (NoPanic.normal ?_) _
          clear NE
          go_wp2_with fail
          go_meet
          exact ⟨_, _, rfl, rfl, PA, PB, hs⟩
      · have nVB := hs.size
        (try have NE := al_ne PA)
        go_simp
        refine hK'.out _ _ (hs.alloc hs.size _) (fun hs => ?_)
        clear hK' K'
        try simp only [Act.put, List.setIfInBounds_toArray, List.set_cons_zero, List.set_cons_succ]
        have PB := al_blk hs
        (try replace PA := al_keep hs PA)
        obtain ⟨A6, h6⟩ := al_w hs
        rw [← h6] at hs PB
        (try rw [← h6] at PA)
        simp only [← h6]
        clear h6
        obtain ⟨VB, hV⟩ := al_b PB
        rw [← hV] at PB nVB
        (try rw [← hV] at NE)
        simp only [← hV]
        clear hV
        refine wpAnyH_ready (rs := [1]) (by kernel_rfl) (by simp) ?_
        refine AllReadyH.cons rfl (fun K' hK' => ?_) AllReadyH.nil
        go_simp
        refine (ND1.out _ hs).mono ?_
        rintro _ ua ⟨rfl, hba⟩
        refine hK'.out _ _ (hs.trans (hba.mono hs.size)) (fun hs => ?_)
        clear hK' K'
        try simp only [Act.put, List.setIfInBounds_toArray, List.set_cons_zero, List.set_cons_succ]
        (try replace PA := PA.below hba PA.lt)
        (try replace PB := PB.below hba PB.lt)
        refine wpAnyH_ready (rs := [3]) (by kernel_rfl) (by simp) ?_
        refine AllReadyH.cons rfl (fun K' hK' => ?_) AllReadyH.nil
        go_simp
        refine (ND2.out _ hs).mono ?_
        rintro _ ub ⟨rfl, hbb⟩
        refine hK'.out _ _ (hs.trans (hbb.mono hs.size)) (fun hs => ?_)
        clear hK' K'
        try simp only [Act.put, List.setIfInBounds_toArray, List.set_cons_zero, List.set_cons_succ]
        (try replace PA := PA.below hbb PA.lt)
        (try replace PB := PB.below hbb PB.lt)
        refine wpAnyH_ready (rs := [6]) (by kernel_rfl) (by simp) ?_
        refine AllReadyH.cons rfl (fun K' hK' => ?_) AllReadyH.nil
        refine wp_store_row 122 _ _ rfl VA (ndA f 6) rfl rfl 122 _ PA rfl rfl (nd_one f) ?_
        refine hK'.out _ _ (below_setRow hs nVA _) (fun hs => ?_)
        clear hK' K'
        try simp only [Act.put, List.setIfInBounds_toArray, List.set_cons_zero, List.set_cons_succ]
        (try replace PB := row_keep (cs := ndA f 6) (by first | exact NE | exact Ne.symm NE) PB)
        replace PA := row_new (cs := ndA f 6) PA
        obtain ⟨A7, h7⟩ := al_w hs
        rw [← h7] at hs PA
        (try rw [← h7] at PB)
        simp only [← h7]
        clear h7
        refine wpAnyH_ready (rs := [7]) (by kernel_rfl) (by simp) ?_
        refine AllReadyH.cons rfl (fun K' hK' => ?_) AllReadyH.nil
        refine wp_store_row 122 _ _ rfl VB (ndA g 6) rfl rfl 122 _ PB rfl rfl (nd_one g) ?_
        refine hK'.out _ _ (below_setRow hs nVB _) (fun hs => ?_)
        clear hK' K'
        try simp only [Act.put, List.setIfInBounds_toArray, List.set_cons_zero, List.set_cons_succ]
        (try replace PA := row_keep (cs := ndA g 6) (by first | exact NE | exact Ne.symm NE) PA)
        replace PB := row_new (cs := ndA g 6) PB
        obtain ⟨A7, h7⟩ := al_w hs
        rw [← h7] at hs PB
        (try rw [← h7] at PA)
        simp only [← h7]
        clear h7
        refine wpAnyH_done (by kernel_rfl) (NoPanic.normal ?_) _
        clear NE
        go_wp2_with fail
        go_meet
        exact ⟨_, _, rfl, rfl, PA, PB, hs⟩
    · have nVB := hs.size
      (try have NE := al_ne PA)
      go_simp
      refine hK'.out _ _ (hs.alloc hs.size _) (fun hs => ?_)
      clear hK' K'
      try simp only [Act.put, List.setIfInBounds_toArray, List.set_cons_zero, List.set_cons_succ]
      have PB := al_blk hs
      (try replace PA := al_keep hs PA)
      obtain ⟨A6, h6⟩ := al_w hs
      rw [← h6] at hs PB
      (try rw [← h6] at PA)
      simp only [← h6]
      clear h6
      obtain ⟨VB, hV⟩ := al_b PB
      rw [← hV] at PB nVB
      (try rw [← hV] at NE)
      simp only [← hV]
      clear hV
      refine wpAnyH_ready (rs := [1, 4]) (by kernel_rfl) (by simp) ?_
      refine AllReadyH.cons rfl (fun K' hK' => ?_) (AllReadyH.cons rfl (fun K' hK' => ?_) AllReadyH.nil)
      · go_simp
        refine (ND1.out _ hs).mono ?_
        rintro _ ua ⟨rfl, hba⟩
        refine hK'.out _ _ (hs.trans (hba.mono hs.size)) (fun hs => ?_)
        clear hK' K'
        try simp only [Act.put, List.setIfInBounds_toArray, List.set_cons_zero, List.set_cons_succ]
        (try replace PA := PA.below hba PA.lt)
        (try replace PB := PB.below hba PB.lt)
        refine wpAnyH_ready (rs := [3, 4]) (by kernel_rfl) (by simp) ?_
        refine AllReadyH.cons rfl (fun K' hK' => ?_) (AllReadyH.cons rfl (fun K' hK' => ?_) AllReadyH.nil)
        · go_simp
          refine (ND2.out _ hs).mono ?_
          rintro _ ub ⟨rfl, hbb⟩
          refine hK'.out _ _ (hs.trans (hbb.mono hs.size)) (fun hs => ?_)
          clear hK' K'
          try simp only [Act.put, List.setIfInBounds_toArray, List.set_cons_zero, List.set_cons_succ]
          (try replace PA := PA.below hbb PA.lt)
          (try replace PB := PB.below hbb PB.lt)
          refine wpAnyH_ready (rs := [4]) (by kernel_rfl) (by simp) ?_
          refine AllReadyH.cons rfl (fun K' hK' => ?_) AllReadyH.nil
          have nVA := hs.size
          (try have NE := al_ne PB)
          go_simp
          refine hK'.out _ _ (hs.alloc hs.size _) (fun hs => ?_)
          clear hK' K'
          try simp only [Act.put, List.setIfInBounds_toArray, List.set_cons_zero, List.set_cons_succ]
          have PA := al_blk hs
          (try replace PB := al_keep hs PB)
          obtain ⟨A6, h6⟩ := al_w hs
          rw [← h6] at hs PA
          (try rw [← h6] at PB)
          simp only [← h6]
          clear h6
          obtain ⟨VA, hV⟩ := al_b PA
          rw [← hV] at PA nVA
          (try rw [← hV] at NE)
          simp only [← hV]
          clear hV
          refine wpAnyH_ready (rs := [6]) (by kernel_rfl) (by simp) ?_
          refine AllReadyH.cons rfl (fun K' hK' => ?_) AllReadyH.nil
          refine wp_store_row 122 _ _ rfl VA (ndA f 6) rfl rfl 122 _ PA rfl rfl (nd_one f) ?_
          refine hK'.out _ _ (below_setRow hs nVA _) (fun hs => ?_)
          clear hK' K'
          try simp only [Act.put, List.setIfInBounds_toArray, List.set_cons_zero, List.set_cons_succ]
          (try replace PB := row_keep (cs := ndA f 6) (by first | exact NE | exact Ne.symm NE) PB)
          replace PA := row_new (cs := ndA f 6) PA
          obtain ⟨A7, h7⟩ := al_w hs
          rw [← h7] at hs PA
          (try rw [← h7] at PB)
          simp only [← h7]
          clear h7
          refine wpAnyH_ready (rs := [7]) (by kernel_rfl) (by simp) ?_
          refine AllReadyH.cons rfl (fun K' hK' => ?_) AllReadyH.nil
          refine wp_store_row 122 _ _ rfl VB (ndA g 6) rfl rfl 122 _ PB rfl rfl (nd_one g) ?_
          refine hK'.out _ _ (below_setRow hs nVB _) (fun hs => ?_)
          clear hK' K'
          try simp only [Act.put, List.setIfInBounds_toArray, List.set_cons_zero, List.set_cons_succ]
          (try replace PA := row_keep (cs := ndA g 6) (by first | exact NE | exact Ne.symm NE) PA)
          replace PB := row_new (cs := ndA g 6) PB
          obtain ⟨A7, h7⟩ := al_w hs
          rw [← h7] at hs PB
          (try rw [← h7] at PA)
          simp only [← h7]
          clear h7
          refine wpAnyH_done (by kernel_rfl) (NoPanic.normal ?_) _
          clear NE
          go_wp2_with fail
          go_meet
          exact ⟨_, _, rfl, rfl, PA, PB, hs⟩
        · have nVA := hs.size
          (try have NE := al_ne PB)
          go_simp
          refine hK'.out _ _ (hs.alloc hs.size _) (fun hs => ?_)
          clear hK' K'
          try simp only [Act.put, List.setIfInBounds_toArray, List.set_cons_zero, List.set_cons_succ]
          have PA := al_blk hs
          (try replace PB := al_keep hs PB)
          obtain ⟨A6, h6⟩ := al_w hs
          rw [← h6] at hs PA
          (try rw [← h6] at PB)
          simp only [← h6]
          clear h6
          obtain ⟨VA, hV⟩ := al_b PA
          rw [← hV] at PA nVA
          (try rw [← hV] at NE)
          simp only [← hV]
          clear hV
          refine wpAnyH_ready (rs := [3]) (by kernel_rfl) (by simp) ?_
          refine AllReadyH.cons rfl (fun K' hK' => ?_) AllReadyH.nil
          go_simp
          refine (ND2.out _ hs).mono ?_
          rintro _ ub ⟨rfl, hbb⟩
          refine hK'.out _ _ (hs.trans (hbb.mono hs.size)) (fun hs => ?_)
          clear hK' K'
          try simp only [Act.put, List.setIfInBounds_toArray, List.set_cons_zero, List.set_cons_succ]
          (try replace PA := PA.below hbb PA.lt)
          (try replace PB := PB.below hbb PB.lt)
          refine wpAnyH_ready (rs := [6]) (by kernel_rfl) (by simp) ?_
          refine AllReadyH.cons rfl (fun K' hK' => ?_) AllReadyH.nil
          refine wp_store_row 122 _ _ rfl VA (ndA f 6) rfl rfl 122 _ PA rfl rfl (nd_one f) ?_
          refine hK'.out _ _ (below_setRow hs nVA _) (fun hs => ?_)
          clear hK' K'
          try simp only [Act.put, List.setIfInBounds_toArray, List.set_cons_zero, List.set_cons_succ]
          (try replace PB := row_keep (cs := ndA f 6) (by first | exact NE | exact Ne.symm NE) PB)
          replace PA := row_new (cs := ndA f 6) PA
          obtain ⟨A7, h7⟩ := al_w hs
          rw [← h7] at hs PA
          (try rw [← h7] at PB)
          simp only [← h7]
          clear h7
          refine wpAnyH_ready (rs := [7]) (by kernel_rfl) (by simp) ?_
          refine AllReadyH.cons rfl (fun K' hK' => ?_) AllReadyH.nil
          refine wp_store_row 122 _ _ rfl VB (ndA g 6) rfl rfl 122 _ PB rfl rfl (nd_one g) ?_
          refine hK'.out _ _ (below_setRow hs nVB _) (fun hs => ?_)
          clear hK' K'
          try simp only [Act.put, List.setIfInBounds_toArray, List.set_cons_zero, List.set_cons_succ]
          (try replace PA := row_keep (cs := ndA g 6) (by first | exact NE | exact Ne.symm NE) PA)
          replace PB := row_new (cs := ndA g 6) PB
          obtain ⟨A7, h7⟩ := al_w hs
          rw [← h7] at hs PB
          (try rw [← h7] at PA)
          simp only [← h7]
          clear h7
          refine wpAnyH_done (by kernel_rfl) (NoPanic.normal ?_) _
          clear NE
          go_wp2_with fail
          go_meet
          exact ⟨_, _, rfl, rfl, PA, PB, hs⟩
      · have nVA := hs.size
        (try have NE := al_ne PB)
        go_simp
        refine hK'.out _ _ (hs.alloc hs.size _) (fun hs => ?_)
        clear hK' K'
        try simp only [Act.put, List.setIfInBounds_toArray, List.set_cons_zero, List.set_cons_succ]
        have PA := al_blk hs
        (try replace PB := al_keep hs PB)
        obtain ⟨A6, h6⟩ := al_w hs
        rw [← h6] at hs PA
        (try rw [← h6] at PB)
        simp only [← h6]
        clear h6
        obtain ⟨VA, hV⟩ := al_b PA
        rw [← hV] at PA nVA
        (try rw [← hV] at NE)
        simp only [← hV]
        clear hV
        refine wpAnyH_ready (rs := [1]) (by kernel_rfl) (by simp) ?_
        refine AllReadyH.cons rfl (fun K' hK' => ?_) AllReadyH.nil
        go_simp
        refine (ND1.out _ hs).mono ?_
        rintro _ ua ⟨rfl, hba⟩
        refine hK'.out _ _ (hs.trans (hba.mono hs.size)) (fun hs => ?_)
        clear hK' K'
        try simp only [Act.put, List.setIfInBounds_toArray, List.set_cons_zero, List.set_cons_succ]
        (try replace PA := PA.below hba PA.lt)
        (try replace PB := PB.below hba PB.lt)
        refine wpAnyH_ready (rs := [3]) (by kernel_rfl) (by simp) ?_
        refine AllReadyH.cons rfl (fun K' hK' => ?_) AllReadyH.nil
        go_simp
        refine (ND2.out _ hs).mono ?_
        rintro _ ub ⟨rfl, hbb⟩
        refine hK'.out _ _ (hs.trans (hbb.mono hs.size)) (fun hs => ?_)
        clear hK' K'
        try simp only [Act.put, List.setIfInBounds_toArray, List.set_cons_zero, List.set_cons_succ]
        (try replace PA := PA.below hbb PA.lt)
        (try replace PB := PB.below hbb PB.lt)
        refine wpAnyH_ready (rs := [6]) (by kernel_rfl) (by simp) ?_
        refine AllReadyH.cons rfl (fun K' hK' => ?_) AllReadyH.nil
        refine wp_store_row 122 _ _ rfl VA (ndA f 6) rfl rfl 122 _ PA rfl rfl (nd_one f) ?_
        refine hK'.out _ _ (below_setRow hs nVA _) (fun hs => ?_)
        clear hK' K'
        try simp only [Act.put, List.setIfInBounds_toArray, List.set_cons_zero, List.set_cons_succ]
        (try replace PB := row_keep (cs := ndA f 6) (by first | exact NE | exact Ne.symm NE) PB)
        replace PA := row_new (cs := ndA f 6) PA
        obtain ⟨A7, h7⟩ := al_w hs
        rw [← h7] at hs PA
        (try rw [← h7] at PB)
        simp only [← h7]
        clear h7
        refine wpAnyH_ready (rs := [7]) (by kernel_rfl) (by simp) ?_
        refine AllReadyH.cons rfl (fun K' hK' => ?_) AllReadyH.nil
        refine wp_store_row 122 _ _ rfl VB (ndA g 6) rfl rfl 122 _ PB rfl rfl (nd_one g) ?_
        refine hK'.out _ _ (below_setRow hs nVB _) (fun hs => ?_)
        clear hK' K'
        try simp only [Act.put, List.setIfInBounds_toArray, List.set_cons_zero, List.set_cons_succ]
        (try replace PA := row_keep (cs := ndA g 6) (by first | exact NE | exact Ne.symm NE) PA)
        replace PB := row_new (cs := ndA g 6) PB
        obtain ⟨A7, h7⟩ := al_w hs
        rw [← h7] at hs PB
        (try rw [← h7] at PA)
        simp only [← h7]
        clear h7
        refine wpAnyH_done (by kernel_rfl) (NoPanic.normal ?_) _
        clear NE
        go_wp2_with fail
        go_meet
        exact ⟨_, _, rfl, rfl, PA, PB, hs⟩
  case rest =>
    obtain ⟨VA, VB, rfl, rfl, PA, PB, W1⟩ := hcut
    generalize wc = W0 at *
    have CA : Hid (∀ (j : Nat) (wx : World), j < 6 → Below W0.heap.size W0 wx → (wx.cell? ⟨VA, j * 3, none⟩ = some (.int .i64 (f j).1) ∧ wx.cell? ⟨VA, j * 3 + 1, none⟩ = some (.int .i64 (f j).2) ∧ wx.cell? ⟨VA, j * 3 + 2, none⟩ = some (.bool false)) ∧ (wx.cell? ⟨VB, j * 3, none⟩ = some (.int .i64 (g j).1) ∧ wx.cell? ⟨VB, j * 3 + 1, none⟩ = some (.int .i64 (g j).2) ∧ wx.cell? ⟨VB, j * 3 + 2, none⟩ = some (.bool false))) := fun j wx hj h => by
      have A := PA.below h PA.lt
      have B := PB.below h PB.lt
      obtain ⟨a0, a1, a2⟩ := nd_at f hj
      obtain ⟨b0, b1, b2⟩ := nd_at g hj
      exact ⟨⟨(A.cell _).trans a0, (A.cell _).trans a1, (A.cell _).trans a2⟩, ⟨(B.cell _).trans b0, (B.cell _).trans b1, (B.cell _).trans b2⟩⟩
    have VE : Hid (∀ wx : World, Below W0.heap.size W0 wx → Below w.heap.size w wx) := fun wx h => W1.trans (h.mono W1.size)
    clear PA PB ND1 ND2
    have W0B : Below W0.heap.size W0 W0 := Below.refl _ _
    go_wp2_with fail
    go_loopw [10] (fun i wr => ∃ j : Nat, j ≤ 6 ∧ i = .int .i64 (6 - (j : Int)) ∧ rw 6 = rw j ∧ Below W0.heap.size W0 wr) (fun i _ => (6 - intOf i).toNat)
    case atStart => exact ⟨6, Nat.le_refl _, by simp, rfl, W0B⟩
    case round =>
      clear W0B
      obtain ⟨j', hj, rfl, hK, BR⟩ := hrel
      cases j' with
      | zero =>
        have hK' : Hid (rw 6 = LC) := hK.trans R0.out
        obtain ⟨⟨p0, p1, p2⟩, ⟨p3, p4, p5⟩⟩ := OLD.out _ (VE.out _ BR)
        have hz : ¬ (6 : Int) - ((0 : Nat) : Int) < 6 := by decide
        clear hK R0 RS OLD CA
        go_wp2_with fail
        refine (LK.out _ (VE.out _ BR)).mono ?_
        rintro e u1 ⟨hb1, h⟩
        have B1 := (VE.out _ BR).trans (hb1.mono (VE.out _ BR).size)
        rcases h with ⟨hn, rfl⟩ | ⟨hn, rfl, OC⟩
        · go_wp2
          go_end0
          rw [hK'.out, hn]
          exact ⟨B1, .inl ⟨rfl, rfl⟩⟩
        · rw [hK'.out, hn]
          exact ⟨rfl, B1, .inr ⟨(zs, ys), la, lc1, lb, lc2, rfl, rfl, OC, fun a h => .inl (NH.out a h)⟩⟩
      | succ j =>
        have hj6 : j < 6 := by omega
        have HLP : Hid (rw 6 = (ndC (f j).1 (f j).2 (g j).1 (g j).2 <|> rw j)) := hK.trans (RS.out j)
        have bf := B1.out j
        have bg := B2.out j
        have TR := TH.out _ (VE.out _ BR)
        have CJ := CA.out j
        generalize (f j).1 = fa at *
        generalize (f j).2 = fb at *
        generalize (g j).1 = ga at *
        generalize (g j).2 = gb at *
        have LL : Hid (∀ u : World, Below W0.heap.size W0 u → Calls Tryd.prog 100 #[.agg #[.int .i64 fa, .int .i64 fb, .bool false], .agg #[.int .i64 ga, .int .i64 gb, .bool false]] u (WkE (ndC fa fb ga gb) u)) := fun u hu => lookInNodes_any fa fb ga gb u (TH.out _ (VE.out _ hu)) bf.1 bf.2 bg.1 bg.2
        generalize ndC fa fb ga gb = X1 at *
        have c0 : ∀ wx : World, Below W0.heap.size W0 wx → wx.cell? ⟨VA, j * 3, none⟩ = some (.int .i64 fa) := fun wx h => (CJ wx hj6 h).1.1
        have c1 : ∀ wx : World, Below W0.heap.size W0 wx → wx.cell? ⟨VA, j * 3 + 1, none⟩ = some (.int .i64 fb) := fun wx h => (CJ wx hj6 h).1.2.1
        have c2 : ∀ wx : World, Below W0.heap.size W0 wx → wx.cell? ⟨VA, j * 3 + 2, none⟩ = some (.bool false) := fun wx h => (CJ wx hj6 h).1.2.2
        have c3 : ∀ wx : World, Below W0.heap.size W0 wx → wx.cell? ⟨VB, j * 3, none⟩ = some (.int .i64 ga) := fun wx h => (CJ wx hj6 h).2.1
        have c4 : ∀ wx : World, Below W0.heap.size W0 wx → wx.cell? ⟨VB, j * 3 + 1, none⟩ = some (.int .i64 gb) := fun wx h => (CJ wx hj6 h).2.2.1
        have c5 : ∀ wx : World, Below W0.heap.size W0 wx → wx.cell? ⟨VB, j * 3 + 2, none⟩ = some (.bool false) := fun wx h => (CJ wx hj6 h).2.2.2
        obtain ⟨d, hd⟩ : ∃ d : Int, (6 : Int) - ((j + 1 : Nat) : Int) = d := ⟨_, rfl⟩
        rw [hd]
        have e5 : (5 : Int) - d = (j : Int) := by omega
        have d0 : 0 ≤ d := by omega
        have d6 : d < 6 := by omega
        have q0 : (0 : Int) ≤ (j : Int) := by omega
        have q6 : (j : Int) < 6 := by omega
        have HD : Hid (d + 1 = 6 - (j : Int)) := by show _ = _; omega
        have BRH : Hid (Below W0.heap.size W0 wr) := BR
        have U0 : Below W0.heap.size W0 wr.drew := BR.drew
        clear hK R0 RS OLD CA CJ LK B1 B2 bf bg hj TR hd
        go_wp2_with fail
        go_region_held2 (fun wx => Below W0.heap.size W0 wx)
          ((first | exact U0 | exact U1))
          ((first | (go_at_call 100; refine (LL.out _ U0).mono ?_; rintro e ua ⟨hba, h⟩; have U1 : Below W0.heap.size W0 ua := U0.trans (hba.mono U0.size); (rcases h with ⟨hn, rfl⟩ | hp); rotate_left; (obtain ⟨y, a1, k1, a2, k2, hX, rfl, OC⟩ := hp); (have hV := VE.out _ U0); (exact ⟨rfl, hV.trans (hba.mono hV.size), .inr ⟨y, a1, k1, a2, k2, by rw [HLP.out, hX]; rfl, rfl, OC.mono (Nat.le_trans hB hV.size), fun a h => .inr (Nat.le_trans hV.size (OC.new a h))⟩⟩)) | fail))
        subst hn
        have HL : Hid (rw 6 = rw j) := by show _ = _; rw [HLP.out]; rfl
        clear HLP c0 c1 c2 c3 c4 c5 U0 LL
        go_wp2
        go_roundw
        case rel => exact ⟨j, by omega, by go_num, HL.out, U1⟩
        case measure => simp [intOf]; omega

end Go.Proofs.YtjjddjohckcmbaaDoor

namespace Go.Proofs.YtjjddjohckcmbaaDoor
open Go.ChangeShapes Go.WideShapes Go.ChangeAt Go.RowKit
set_option maxRecDepth 100000
set_option linter.unusedVariables false
set_option linter.unusedSimpArgs false

set_option maxHeartbeats 1000000 in
theorem clashOnB_any (k : Nat) (caps : Array Value) (X : Cl) (B : Nat) (w : World) (hB : B ≤ w.heap.size) (hW : ∀ u : World, Below w.heap.size w u → Calls Tryd.prog k caps u (WkB B w.heap.size X u)) (hk : ∀ u : World, (callFunc k caps).run Tryd.prog u = .ok (.enter k caps) u) :
    Calls Tryd.prog 70 #[.func (.func k) #[] caps] w fun r w' => ∃ a1 c1 a2 c2, r = .returned (.agg #[.int .i64 0, .bool X.isSome, .slice a1 (clA X).length c1, .slice a2 (clB X).length c2]) ∧ OwnC w' B a1 a2 c1 c2 (clA X) (clB X) ∧ Below w.heap.size w w' := by
  have hmf : ∀ (fn : Fn) (first cap : Array Value) (w : World), (Instr.makeFunc fn first cap).run Tryd.prog w = .ok (.func fn first cap) w := fun _ _ _ _ => rfl
  have HW : Hid (∀ u : World, Below w.heap.size w u → Calls Tryd.prog k caps u (WkB B w.heap.size X u)) := hW
  clear hW
  have B0 : Below w.heap.size w (w.alloc (.cells #[.int .i64 0, .bool false, .slice none 0 0, .slice none 0 0] 47)) := (Below.refl _ _).alloc (Nat.le_refl _) _
  go_enter_defers Tryd.func70, Tryd.ntmps70
  go_wp2_with fail
  refine (HW.out _ B0).mono ?_
  rintro e u1 ⟨hb1, h⟩
  have B1 := B0.trans (hb1.mono (by simp))
  obtain ⟨⟨k0, k1, k2, k3⟩, f0, f1, f2, f3⟩ := var4 hb1
  rcases h with ⟨rfl, rfl⟩ | ⟨y, a1, c1, a2, c2, rfl, rfl, O, hne⟩
  · go_wp2
    refine leaves_cons (f := 98) (args := #[.pointer (some ⟨w.heap.size, 0, none⟩)]) (by simp) (by simp [go_sem]) ?_
    refine (catch_idle ⟨w.heap.size, 0, none⟩ _).mono ?_
    rintro e u' w'' ⟨rfl, rfl, rfl⟩
    simp only [settle, Leaves]
    refine ⟨.agg #[.int .i64 0, .bool false, .slice none 0 0, .slice none 0 0], by simp [results, Tryd.results70, go_sem, k0, k1, k2, k3], none, 0, none, 0, rfl, OwnC.nil _ _, ?_⟩
    exact (((B1.setCell (Nat.le_refl _) _).setCell (Nat.le_refl _) _).setCell (Nat.le_refl _) _).setCell (Nat.le_refl _) _
  · have zz := hb1.size
    simp at zz
    have zl : w.heap.size < u1.heap.size := by omega
    have O1 : OwnC u1 B a1 a2 c1 c2 y.1 y.2 := O
    have hn : ∀ a, a1 = some a ∨ a2 = some a → a.block ≠ w.heap.size := fun a h => by
      have := hne a h
      simp at this
      omega
    have NH : Hid (∀ a, a1 = some a ∨ a2 = some a → a.block ≠ w.heap.size) := hn
    clear hne hn
    go_wp2
    refine leaves_cons (f := 98) (args := #[.pointer (some ⟨w.heap.size, 0, none⟩)]) (by simp) (by simp [go_sem]) ?_
    refine (catch_clash w.heap.size true a1 a2 y.1.length c1 y.2.length c2 _ _ _ _ k1 k2 k3 f1 f2 f3 (by omega)).mono ?_
    rintro e u' w'' ⟨rfl, rfl, rfl⟩
    simp only [settle, Leaves, List.dropWhile]
    refine ⟨.agg #[.int .i64 0, .bool true, .slice a1 y.1.length c1, .slice a2 y.2.length c2], by simp [results, Tryd.results70, go_sem, k0, k1, k2, k3, zl], a1, c1, a2, c2, rfl, ?_, ?_⟩
    · exact (((O1.setNe _ _ NH.out).setNe _ _ NH.out).setNe _ _ NH.out).below ((Below.refl _ _).alloc (Nat.le_refl _) _)
    · exact (((B1.setCell (Nat.le_refl _) _).setCell (Nat.le_refl _) _).setCell (Nat.le_refl _) _).alloc (by simp; omega) _

theorem riseWalk_any (k1 k2 : Int) (a1 a2 a3 a4 : Option Addr) (n1 n2 n3 n4 c1 c2 c3 c4 : Nat) (w : World) :
    Calls Tryd.prog 71 #[.agg #[.int .i64 k1, .slice a1 n1 c1, .slice a2 n2 c2], .agg #[.int .i64 k2, .slice a3 n3 c3, .slice a4 n4 c4]] w fun r w' => r = .returned (.func (.func 99) #[] #[.pointer (some ⟨w.heap.size, 0, none⟩), .pointer (some ⟨w.heap.size + 1, 0, none⟩)]) ∧ w' = (w.alloc (.cells #[.int .i64 k1, .slice a1 n1 c1, .slice a2 n2 c2] 80)).alloc (.cells #[.int .i64 k2, .slice a3 n3 c3, .slice a4 n4 c4] 80) := by
  have hmf : ∀ (fn : Fn) (first cap : Array Value) (w : World), (Instr.makeFunc fn first cap).run Tryd.prog w = .ok (.func fn first cap) w := fun _ _ _ _ => rfl
  go_enter Tryd.func71, Tryd.ntmps71
  go_wp2
  go_ret
  exact ⟨rfl, rfl⟩

set_option maxHeartbeats 8000000 in
theorem implMapClash_any (a : Option Addr) (c : Nat) (l : List Sl) (k v : Int) (t : Bool) (q : Option Addr) (cq : Nat) (p : List Int) (w : World) (hT : Tab w) (h : HasS w a l) (hl : l.length ≤ 1048576) (hp : Has w .i64 q p.length p) (hlp : p.length ≤ 1048576) :
    Calls Tryd.prog 27 #[.slice a l.length c, .int .i64 k, .bool t, .int .i64 v, .slice q p.length cq] w fun r w' => ∃ a1 c1 a2 c2, r = .returned (.agg #[.int .i64 (mkC l k t v p), .bool (mkX l k t v p).isSome, .slice a1 (clA (mkX l k t v p)).length c1, .slice a2 (clB (mkX l k t v p)).length c2]) ∧ OwnC w' w.heap.size a1 a2 c1 c2 (clA (mkX l k t v p)) (clB (mkX l k t v p)) ∧ Below w.heap.size w w' := by
  obtain ⟨E, hE⟩ : ∃ E, E = w.alloc (.cells #[.int .i64 0, .bool false, .slice none 0 0, .slice none 0 0] 47) := ⟨_, rfl⟩
  have RE : Blk E w.heap.size #[.int .i64 0, .bool false, .slice none 0 0, .slice none 0 0] 47 := by rw [hE]; exact Blk.new _ _ _
  have B0 : Below w.heap.size w E := by rw [hE]; exact (Below.refl _ _).alloc (Nat.le_refl _) _
  have zE : E.heap.size = w.heap.size + 1 := by rw [hE]; simp
  have SF : Hid (∀ u : World, Below w.heap.size w u → Calls Tryd.prog 20 #[.slice a l.length c] u fun r w' => r = .returned (.int .i64 (slF l)) ∧ Below u.heap.size u w') := fun u hu => implSlotsFault_any a c l u (h.below hu (Nat.le_refl _)) hl
  have CF : Hid (∀ u : World, Below w.heap.size w u → Calls Tryd.prog 54 #[.int .i64 k, .bool t, .int .i64 v, .slice q p.length cq] u fun r w' => r = .returned (.int .i64 (clF k t v p)) ∧ w' = u) := fun u hu => climbFault_any k v t q cq p u (hp.below hu (Nat.le_refl _)) hlp
  have TH : Hid (∀ u : World, Below w.heap.size w u → Tab u) := fun u hu => hT.below hu (Nat.le_refl _)
  by_cases ho : orC (slF l) (clF k t v p) = 0
  case neg =>
    have e : mkC l k t v p = orC (slF l) (clF k t v p) := by
      unfold mkC orC at *
      by_cases hs : slF l = 0
      · rw [if_pos hs] at ho ⊢
        rw [if_neg ho, if_pos hs]
      · rw [if_neg hs, if_neg hs]
    rw [e, mkX_none e ho]
    have e0 : (orC (slF l) (clF k t v p) != 0) = true := by simpa using ho
    clear e ho h hp TH
    generalize slF l = sf at *
    generalize clF k t v p = cf at *
    obtain ⟨cc, hcc⟩ : ∃ cc, orC sf cf = cc := ⟨_, rfl⟩
    rw [hcc] at e0 ⊢
    have HOR : Hid (orC sf cf = cc) := hcc
    clear hcc
    go_enter Tryd.func27, Tryd.ntmps27
    go_wp2_with fail
    simp only [← hE]
    clear hE
    refine (SF.out _ B0).mono ?_
    rintro r u1 ⟨rfl, hb1⟩
    have B1 := B0.trans (hb1.mono B0.size)
    replace RE := RE.below hb1 RE.lt
    clear hb1
    go_wp2_with fail
    refine (CF.out _ B1).mono ?_
    rintro r u ⟨rfl, hu⟩; have hu2 := hu.symm; subst hu2; clear hu
    obtain ⟨F, hF⟩ : ∃ F, F = u1.alloc (.cells #[.int .i64 sf, .int .i64 cf] 2) := ⟨_, rfl⟩
    have bF : Below u1.heap.size u1 F := by rw [hF]; exact (Below.refl _ _).alloc (Nat.le_refl _) _
    have BF := B1.trans (bF.mono B1.size)
    have OR := cmpOr_any sf cf u1.heap.size F (by rw [hF]; simp [go_sem]) (by rw [hF]; simp [go_sem])
    replace RE := RE.below bF RE.lt
    clear bF B1
    go_wp2_with fail
    simp only [← hF]
    clear hF
    refine OR.mono ?_
    rintro r u ⟨rfl, hu⟩; have hu2 := hu.symm; subst hu2; clear hu OR
    rw [HOR.out]
    have r0 : F.cell? ⟨w.heap.size, 0, none⟩ = some (.int .i64 0) := (RE.cell 0).trans rfl
    have r1 : F.cell? ⟨w.heap.size, 1, none⟩ = some (.bool false) := (RE.cell 1).trans rfl
    have r2 : F.cell? ⟨w.heap.size, 2, none⟩ = some (.slice none 0 0) := (RE.cell 2).trans rfl
    have r3 : F.cell? ⟨w.heap.size, 3, none⟩ = some (.slice none 0 0) := (RE.cell 3).trans rfl
    have g0 := RE.frozen 0
    have g1 := RE.frozen 1
    have g2 := RE.frozen 2
    have g3 := RE.frozen 3
    have rl := RE.lt
    clear RE
    go_wp2
    refine bodyPost_ret (v := .agg #[.int .i64 (cc), .bool false, .slice none 0 0, .slice none 0 0]) (by simp [results, Tryd.results27, go_sem, r0, r1, r2, r3]) rfl ⟨none, 0, none, 0, rfl, OwnC.nil _ _, ?_⟩
    exact ((((BF).setCell (Nat.le_refl _) _).setCell (Nat.le_refl _) _).setCell (Nat.le_refl _) _).setCell (Nat.le_refl _) _
  have hs : slF l = 0 := by unfold orC at ho; split at ho <;> omega
  have hc : clF k t v p = 0 := by unfold orC at ho; rw [if_pos hs] at ho; exact ho
  obtain ⟨_, ok, hr⟩ := slF_zero hs
  have hl12 : l.length ≤ 12 := by have := slF_zero hs; omega
  obtain ⟨k1, k2, k3, k4, k5⟩ := clF_zero hc
  have HOR : Hid (orC (slF l) (clF k t v p) = 0) := ho
  have HW : Hid (mpC k (sumL (lfB k t v)) p 6 = clW k t v p) := by show _ = _; unfold clW; rw [if_pos hc]
  have SM : Hid (∀ u : World, Below w.heap.size w u → Calls Tryd.prog 51 #[.slice a l.length c] u fun r w' => r = .returned (.map (some u.heap.size)) ∧ (∃ D, World.ownsMap w' Tryd.prog 2 (plainElem (H := Unit) Tryd.prog 2) u.heap.size 12 D ∧ MapD D (slFind l) l.length) ∧ Below u.heap.size u w' ∧ u.heap.size < w'.heap.size) := fun u hu => slotMapOf_any a c l u (h.below hu (Nat.le_refl _)) hl12 hr
  have RO : Hid (∀ (u : World) (D : DataW Unit) (b : Nat), Below w.heap.size w u → World.ownsMap u Tryd.prog 2 (plainElem (H := Unit) Tryd.prog 2) b 12 D → MapD D (slFind l) l.length → Calls Tryd.prog 52 #[.map (some b), .int .i64 k] u fun r w' => ∃ a1 c1 a2 c2, r = .returned (.agg #[.int .i64 k, .slice a1 (slLeaf l k).length c1, .slice a2 (mpP l k).length c2]) ∧ OwnB w' u.heap.size a1 c1 (slLeaf l k) ∧ OwnI w' u.heap.size (.slice a2 (mpP l k).length c2) (mpP l k) ∧ Below u.heap.size u w') := fun u D b hu ho hm => riseOf_any b 12 l.length D l k u (TH.out u hu) ho hm ok k1
  have RB : Hid (∀ u : World, Below w.heap.size w u → Calls Tryd.prog 55 #[.int .i64 k, .bool t, .int .i64 v, .slice q p.length cq] u fun r w' => ∃ a' c', r = .returned (.agg #[.int .i64 k, .slice a' (lfB k t v).length c', .slice q p.length cq]) ∧ OwnB w' u.heap.size a' c' (lfB k t v) ∧ Below u.heap.size u w') := fun u hu => riseBy_any k v t q p.length cq u (TH.out u hu) k1 (fun _ => k2)
  have RT1 : Hid (∀ (u : World) (a1 : Option Addr) (c1 : Nat), Below w.heap.size w u → Has u .u8 a1 (lfB k t v).length (lfB k t v) → Calls Tryd.prog 56 #[.agg #[.int .i64 k, .slice a1 (lfB k t v).length c1, .slice q p.length cq]] u fun r w' => r = .returned (.int .i64 (clW k t v p)) ∧ Below u.heap.size u w') := fun u a1 c1 hu h1 => by
    have := root_of k a1 c1 (lfB k t v) q cq p u (TH.out u hu) k1 h1 (lfB_len k v t) (hp.below hu (Nat.le_refl _)) k4 k5
    rw [HW.out] at this
    exact this
  have RT2 : Hid (∀ (u : World) (a1 : Option Addr) (c1 : Nat) (a2 : Option Addr) (c2 : Nat), Below w.heap.size w u → Has u .u8 a1 (slLeaf l k).length (slLeaf l k) → Has u .i64 a2 (mpP l k).length (mpP l k) → Calls Tryd.prog 56 #[.agg #[.int .i64 k, .slice a1 (slLeaf l k).length c1, .slice a2 (mpP l k).length c2]] u fun r w' => r = .returned (.int .i64 (mpN l 6 0)) ∧ Below u.heap.size u w') := fun u a1 c1 a2 c2 hu h1 h2 => by
    have := root_of k a1 c1 (slLeaf l k) a2 c2 (mpP l k) u (TH.out u hu) k1 h1 (slLeaf_len l k) h2 (mpP_len l k) (mpP_all l k)
    rw [mpC_root k1.1 k1.2] at this
    exact this
  have RW : Hid (∀ (B N pa pb : Nat) (la lb : Option Addr) (lc1 lc2 : Nat) (qb : Option Addr) (c2 : Nat) (u : World), Below w.heap.size w u → OwnC u B la lb lc1 lc2 (lfB k t v) (slLeaf l k) → B ≤ u.heap.size → (∀ a, la = some a ∨ lb = some a → a.block < N) → Has u .i64 qb (mpP l k).length (mpP l k) → Blk u pa #[.int .i64 k, .slice la (lfB k t v).length lc1, .slice q p.length cq] 80 → Blk u pb #[.int .i64 k, .slice lb (slLeaf l k).length lc2, .slice qb (mpP l k).length c2] 80 → Calls Tryd.prog 99 #[.pointer (some ⟨pa, 0, none⟩), .pointer (some ⟨pb, 0, none⟩)] u (WkB B N (mpK l k t v p 6) u)) := by
    intro B N pa pb la lb lc1 lc2 qb c2 u hu OC hB hN hq RA RB
    rw [← rwC_mp 6 (Nat.le_refl _)]
    have hp' := hp.below hu (Nat.le_refl _)
    obtain ⟨g1, o1, rfl⟩ : ∃ g o, q = some ⟨g, o, none⟩ := by
      rcases hp'.2.2 with h0 | ⟨b, o, e, _⟩
      · omega
      · exact ⟨b, o, e⟩
    have lq := mpP_len l k
    obtain ⟨g2, o2, rfl⟩ : ∃ g o, qb = some ⟨g, o, none⟩ := by
      rcases hq.2.2 with h0 | ⟨b, o, e, _⟩
      · omega
      · exact ⟨b, o, e⟩
    rw [k4] at hp' RA
    rw [lq] at hq RB
    exact riseWalk1_any B N pa pb k la lb lc1 lc2 (lfB k t v) (slLeaf l k) g1 o1 cq g2 o2 c2 p (mpP l k) u (TH.out u hu) k1 OC hB hN (has_of_own OC.one (lfB_wf t k1 k2)) (has_of_own OC.two (slLeaf_wf ok k1)) (lfB_len k v t) (slLeaf_len l k) hp' hq k5 (mpP_all l k) RA RB
  have WZ : Hid (∀ n ∈ lfB k t v, (Lit.int .u8 n).wf = true) := lfB_wf t k1 k2
  have WY : Hid (∀ n ∈ slLeaf l k, (Lit.int .u8 n).wf = true) := slLeaf_wf ok k1
  have WP : Hid (∀ n ∈ mpP l k, (Lit.int .i64 n).wf = true) := mpP_wf l k
  have EC : mkC l k t v p = if clW k t v p = mpN l 6 0 then 0 else 8 := by unfold mkC; rw [if_pos hs, if_pos hc]
  have EX : mkC l k t v p = 0 → mkX l k t v p = mpK l k t v p 6 := fun e => by unfold mkX; rw [if_pos e]
  have EN : ∀ cc, mkC l k t v p = cc → cc ≠ 0 → mkX l k t v p = none := fun cc e hc => mkX_none e hc
  generalize mkC l k t v p = MC at *
  generalize mkX l k t v p = MX at *
  generalize mpK l k t v p 6 = X at *
  generalize clW k t v p = sv at *
  generalize mpN l 6 0 = rv at *
  generalize lfB k t v = zs at *
  generalize slLeaf l k = ys at *
  generalize mpP l k = P at *
  generalize slF l = sf at *
  generalize clF k t v p = cf at *
  clear HW ho hs hc ok hr k1 k2 k3 k4 k5 hl12 h hp hT zE TH
  go_enter Tryd.func27, Tryd.ntmps27
  go_wp2_with fail
  simp only [← hE]
  clear hE
  refine (SF.out _ B0).mono ?_
  rintro r u1 ⟨rfl, hb1⟩
  have B1 := B0.trans (hb1.mono B0.size)
  replace RE := RE.below hb1 RE.lt
  clear hb1
  go_wp2_with fail
  refine (CF.out _ B1).mono ?_
  rintro r u ⟨rfl, hu⟩; have hu2 := hu.symm; subst hu2; clear hu
  obtain ⟨F, hF⟩ : ∃ F, F = u1.alloc (.cells #[.int .i64 sf, .int .i64 cf] 2) := ⟨_, rfl⟩
  have bF : Below u1.heap.size u1 F := by rw [hF]; exact (Below.refl _ _).alloc (Nat.le_refl _) _
  have BF := B1.trans (bF.mono B1.size)
  have OR := cmpOr_any sf cf u1.heap.size F (by rw [hF]; simp [go_sem]) (by rw [hF]; simp [go_sem])
  replace RE := RE.below bF RE.lt
  clear bF B1
  go_wp2_with fail
  simp only [← hF]
  clear hF
  refine OR.mono ?_
  rintro r u ⟨rfl, hu⟩; have hu2 := hu.symm; subst hu2; clear hu OR
  rw [HOR.out]
  have zF0 := RE.lt
  go_wp2_with fail
  refine (RB.out _ BF).mono ?_
  rintro r u2 ⟨a1, c1, rfl, O1, hb2⟩
  have B2 := BF.trans (hb2.mono BF.size)
  replace RE := RE.below hb2 RE.lt
  go_wp2_with fail
  refine (SM.out _ B2).mono ?_
  rintro r u3 ⟨rfl, ⟨D, hown, hmd⟩, hb3, z3⟩
  have B3 := B2.trans (hb3.mono B2.size)
  replace RE := RE.below hb3 RE.lt
  replace O1 := own_below O1 hb3
  have RO3 := RO.out u3 D _ B3 hown hmd
  have zF : F.heap.size ≤ u3.heap.size := Nat.le_trans hb2.size hb3.size
  clear hown hmd RO SM hb2 hb3 z3 B2
  go_wp2_with fail
  refine RO3.mono ?_
  rintro r u4 ⟨a3, c3, a4, c4, rfl, O3, O4, hb4⟩
  have B4 := B3.trans (hb4.mono B3.size)
  replace RE := RE.below hb4 RE.lt
  have OC : OwnC u4 F.heap.size a1 a3 c1 c3 zs ys := ⟨own_below O1 hb4, own_mono O3 zF, fun x y e1 e2 => by have h1 := own_lt O1 x e1; have h2 := own_base O3 y e2; omega⟩
  have H4 : Has u4 .i64 a4 P.length P := has_of_own O4 WP.out
  have z4 : F.heap.size ≤ u4.heap.size := Nat.le_trans zF hb4.size
  clear O1 O3 O4 hb4 RO3 B3 zF RB CF SF
  obtain ⟨V, hV⟩ : ∃ V, V = u4.heap.size := ⟨_, rfl⟩
  obtain ⟨Y, hY⟩ : ∃ Y, Y = (u4.alloc (.cells #[.int .i64 k, .slice a1 zs.length c1, .slice q p.length cq] 80)).alloc (.cells #[.int .i64 k, .slice a3 ys.length c3, .slice a4 P.length c4] 80) := ⟨_, rfl⟩
  have S1 : Blk Y V #[.int .i64 k, .slice a1 zs.length c1, .slice q p.length cq] 80 := by rw [hY, hV]; exact (Blk.new _ _ _).below (((Below.refl _ _)).alloc (Nat.le_refl _) _) (Blk.new _ _ _).lt
  have S2 : Blk Y (V + 1) #[.int .i64 k, .slice a3 ys.length c3, .slice a4 P.length c4] 80 := by
    have := Blk.new (u4.alloc (.cells #[.int .i64 k, .slice a1 zs.length c1, .slice q p.length cq] 80)) #[.int .i64 k, .slice a3 ys.length c3, .slice a4 P.length c4] 80
    rw [World.size_alloc] at this
    rw [hY, hV]; exact this
  have bY : Below u4.heap.size u4 Y := by rw [hY]; exact ((Below.refl _ _).alloc (Nat.le_refl _) _).alloc (by simp) _
  have BY := B4.trans (bY.mono B4.size)
  replace RE := RE.below bY RE.lt
  replace OC := OC.below bY
  replace H4 := H4.below bY (Nat.le_refl _)
  have zY := Nat.le_trans z4 bY.size
  go_upto_region 5 with fail
  simp only [← hY, ← hV]
  clear hY hV bY B4 z4
  have hne : Nonempty (KeptW Y) := ⟨⟨Y, Below.refl _ _⟩⟩
  have KB : Hid (∀ d : KeptW Y, Below w.heap.size w d.wd) := fun d => BY.trans (d.hb.mono BY.size)
  have KZ : Hid (∀ d : KeptW Y, Has d.wd .u8 a1 zs.length zs) := fun d => (has_of_own OC.one WZ.out).below d.hb (Nat.le_refl _)
  have KY : Hid (∀ d : KeptW Y, Has d.wd .u8 a3 ys.length ys) := fun d => (has_of_own OC.two WY.out).below d.hb (Nat.le_refl _)
  have KP : Hid (∀ d : KeptW Y, Has d.wd .i64 a4 P.length P) := fun d => H4.below d.hb (Nat.le_refl _)
  have K0 := KeptW.cell (v := .int .i64 k) ((S1.cell 0).trans rfl) S1.lt
  have K1 := KeptW.cell (v := .slice a1 zs.length c1) ((S1.cell 1).trans rfl) S1.lt
  have K2 := KeptW.cell (v := .slice q p.length cq) ((S1.cell 2).trans rfl) S1.lt
  have K3 := KeptW.cell (v := .int .i64 k) ((S2.cell 0).trans rfl) S2.lt
  have K4 := KeptW.cell (v := .slice a3 ys.length c3) ((S2.cell 1).trans rfl) S2.lt
  have K5 := KeptW.cell (v := .slice a4 P.length c4) ((S2.cell 2).trans rfl) S2.lt
  have ALL : Hid (Blk Y w.heap.size #[.int .i64 0, .bool false, .slice none 0 0, .slice none 0 0] 47 ∧ Blk Y V #[.int .i64 k, .slice a1 zs.length c1, .slice q p.length cq] 80 ∧ Blk Y (V + 1) #[.int .i64 k, .slice a3 ys.length c3, .slice a4 P.length c4] 80 ∧ OwnC Y F.heap.size a1 a3 c1 c3 zs ys ∧ Has Y .i64 a4 P.length P) := ⟨RE, S1, S2, OC, H4⟩
  clear RE S1 S2 OC H4
  refine wp_region_kept (by kernel_rfl) (by kernel_rfl) ?_
  iterate 5 (go_big_quiet_step ((first | (go_at_call_of 56 (Value.agg #[Value.int .i64 k, Value.slice a1 zs.length c1, Value.slice q p.length cq]); exact KeptW.calls (RT1.out _ _ _ (KB.out _) (KZ.out _))) | (go_at_call_of 56 (Value.agg #[Value.int .i64 k, Value.slice a3 ys.length c3, Value.slice a4 P.length c4]); exact KeptW.calls (RT2.out _ _ _ _ _ (KB.out _) (KY.out _) (KP.out _))))))
  refine wpQuiet_nil ?_
  rintro _ ⟨d, rfl⟩
  obtain ⟨RE0, S10, S20, OC0, H40⟩ := ALL.out
  have RE := RE0.below d.hb RE0.lt
  have S1 := S10.below d.hb S10.lt
  have S2 := S20.below d.hb S20.lt
  have OC := OC0.below d.hb
  have H4 := H40.below d.hb (Nat.le_refl _)
  have BD := KB.out d
  have zD := Nat.le_trans zY d.hb.size
  obtain ⟨Z, hZ⟩ : ∃ Z, Z = d.wd := ⟨_, rfl⟩
  rw [← hZ] at RE S1 S2 OC H4 BD zD ⊢
  clear hZ RE0 S10 S20 OC0 H40 ALL K0 K1 K2 K3 K4 K5 KB KZ KY KP hne BY zY RT1 RT2
  by_cases hrv : sv = rv
  case neg =>
    rw [if_neg hrv] at EC
    have e1 := EN 8 EC (by decide)
    subst EC
    have e2 := e1.symm
    subst e2
    have hr' : (sv != rv) = true := by simpa using hrv
    have r0 : Z.cell? ⟨w.heap.size, 0, none⟩ = some (.int .i64 0) := (RE.cell 0).trans rfl
    have r1 : Z.cell? ⟨w.heap.size, 1, none⟩ = some (.bool false) := (RE.cell 1).trans rfl
    have r2 : Z.cell? ⟨w.heap.size, 2, none⟩ = some (.slice none 0 0) := (RE.cell 2).trans rfl
    have r3 : Z.cell? ⟨w.heap.size, 3, none⟩ = some (.slice none 0 0) := (RE.cell 3).trans rfl
    have g0 := RE.frozen 0
    have g1 := RE.frozen 1
    have g2 := RE.frozen 2
    have g3 := RE.frozen 3
    have rl := RE.lt
    clear RE S1 S2 OC H4 RW EN EX hrv
    go_wp2
    refine bodyPost_ret (v := .agg #[.int .i64 (8), .bool false, .slice none 0 0, .slice none 0 0]) (by simp [results, Tryd.results27, go_sem, r0, r1, r2, r3]) rfl ⟨none, 0, none, 0, rfl, OwnC.nil _ _, ?_⟩
    exact ((((BD).setCell (Nat.le_refl _) _).setCell (Nat.le_refl _) _).setCell (Nat.le_refl _) _).setCell (Nat.le_refl _) _
  rw [if_pos hrv] at EC
  have e1 := EX EC
  subst EC
  have e2 := e1.symm
  subst e2
  have hr' : (sv != rv) = false := by simpa using hrv
  clear EN EX hrv
  have j0 : Z.cell? ⟨V, 0, none⟩ = some (.int .i64 k) := (S1.cell 0).trans rfl
  have j1 : Z.cell? ⟨V, 1, none⟩ = some (.slice a1 zs.length c1) := (S1.cell 1).trans rfl
  have j2 : Z.cell? ⟨V, 2, none⟩ = some (.slice q p.length cq) := (S1.cell 2).trans rfl
  have j3 : Z.cell? ⟨V + 1, 0, none⟩ = some (.int .i64 k) := (S2.cell 0).trans rfl
  have j4 : Z.cell? ⟨V + 1, 1, none⟩ = some (.slice a3 ys.length c3) := (S2.cell 1).trans rfl
  have j5 : Z.cell? ⟨V + 1, 2, none⟩ = some (.slice a4 P.length c4) := (S2.cell 2).trans rfl
  clear S1 S2
  obtain ⟨G, hG⟩ : ∃ G, G = (Z.alloc (.cells #[.int .i64 k, .slice a1 zs.length c1, .slice q p.length cq] 80)).alloc (.cells #[.int .i64 k, .slice a3 ys.length c3, .slice a4 P.length c4] 80) := ⟨_, rfl⟩
  have N1 : Blk G Z.heap.size #[.int .i64 k, .slice a1 zs.length c1, .slice q p.length cq] 80 := by rw [hG]; exact (Blk.new _ _ _).below (((Below.refl _ _)).alloc (Nat.le_refl _) _) (Blk.new _ _ _).lt
  have N2 : Blk G (Z.heap.size + 1) #[.int .i64 k, .slice a3 ys.length c3, .slice a4 P.length c4] 80 := by
    have := Blk.new (Z.alloc (.cells #[.int .i64 k, .slice a1 zs.length c1, .slice q p.length cq] 80)) #[.int .i64 k, .slice a3 ys.length c3, .slice a4 P.length c4] 80
    rw [World.size_alloc] at this
    rw [hG]; exact this
  have bG : Below Z.heap.size Z G := by rw [hG]; exact ((Below.refl _ _).alloc (Nat.le_refl _) _).alloc (by simp) _
  have BG := BD.trans (bG.mono BD.size)
  replace RE := RE.below bG RE.lt
  replace OC := OC.below bG
  replace H4 := H4.below bG (Nat.le_refl _)
  have zG := Nat.le_trans zD bG.size
  have CO : Hid (Calls Tryd.prog 70 #[.func (.func 99) #[] #[.pointer (some ⟨Z.heap.size, 0, none⟩), .pointer (some ⟨Z.heap.size + 1, 0, none⟩)]] G fun r w' => ∃ a1 c1 a2 c2, r = .returned (.agg #[.int .i64 0, .bool X.isSome, .slice a1 (clA X).length c1, .slice a2 (clB X).length c2]) ∧ OwnC w' F.heap.size a1 a2 c1 c2 (clA X) (clB X) ∧ Below G.heap.size G w') := clashOnB_any 99 #[.pointer (some ⟨Z.heap.size, 0, none⟩), .pointer (some ⟨Z.heap.size + 1, 0, none⟩)] X F.heap.size G zG (fun u hu => RW.out F.heap.size G.heap.size Z.heap.size (Z.heap.size + 1) a1 a3 c1 c3 a4 c4 u (BG.trans (hu.mono BG.size)) (OC.below hu) (Nat.le_trans zG hu.size) OC.old (H4.below hu (Nat.le_refl _)) (N1.below hu N1.lt) (N2.below hu N2.lt)) (fun u => by simp [go_sem])
  clear N1 N2 OC H4 RW zG bG zD
  go_wp2_with fail
  refine (riseWalk_any k k a1 q a3 a4 _ _ _ _ c1 cq c3 c4 _).mono ?_
  rintro r u6 ⟨rfl, rfl⟩
  clear j0 j1 j2 j3 j4 j5 BD
  go_wp2_with fail
  simp only [← hG]
  clear hG
  refine Calls.mono (P := Tryd.prog) (f := 70) CO.out ?_
  rintro r u7 ⟨b1, d1, b2, d2, rfl, O7, hb7⟩
  have B7 := BG.trans (hb7.mono BG.size)
  replace RE := RE.below hb7 RE.lt
  have OH : Hid (OwnC u7 (w.heap.size + 1) b1 b2 d1 d2 (clA X) (clB X)) := O7.mono zF0
  have BH : Hid (Below w.heap.size w u7) := B7
  have r0 : u7.cell? ⟨w.heap.size, 0, none⟩ = some (.int .i64 0) := (RE.cell 0).trans rfl
  have r1 : u7.cell? ⟨w.heap.size, 1, none⟩ = some (.bool false) := (RE.cell 1).trans rfl
  have r2 : u7.cell? ⟨w.heap.size, 2, none⟩ = some (.slice none 0 0) := (RE.cell 2).trans rfl
  have r3 : u7.cell? ⟨w.heap.size, 3, none⟩ = some (.slice none 0 0) := (RE.cell 3).trans rfl
  have g0 := RE.frozen 0
  have g1 := RE.frozen 1
  have g2 := RE.frozen 2
  have g3 := RE.frozen 3
  have rl := RE.lt
  clear RE O7 B7 hb7 CO BG
  go_wp2
  refine bodyPost_ret (v := .agg #[.int .i64 0, .bool X.isSome, .slice b1 (clA X).length d1, .slice b2 (clB X).length d2]) (by simp [results, Tryd.results27, go_sem, r0, r1, r2, r3]) rfl ⟨b1, d1, b2, d2, rfl, ?_, ?_⟩
  · exact ((((OH.out.set _ _ (Nat.lt_succ_self _)).set _ _ (Nat.lt_succ_self _)).set _ _ (Nat.lt_succ_self _)).set _ _ (Nat.lt_succ_self _)).mono (Nat.le_succ _)
  · exact (((BH.out.setCell (Nat.le_refl _) _).setCell (Nat.le_refl _) _).setCell (Nat.le_refl _) _).setCell (Nat.le_refl _) _

end Go.Proofs.YtjjddjohckcmbaaDoor
