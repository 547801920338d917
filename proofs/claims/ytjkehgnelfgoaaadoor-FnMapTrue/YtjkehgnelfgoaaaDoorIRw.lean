/- Contracts: the program's walk down two rises of a map. -/
import Derived.Test.YtjkehgnelfgoaaaDoorIAcS
import Derived.Test.YtjkehgnelfgoaaaDoorIWk
import Derived.Test.YtjkehgnelfgoaaaDoorRegB
import Derived.Laws.CopyOwn
import Derived.Deep.DeepCutAuto
import Derived.Deep.RegionHeld2
import Derived.Deep.RegionHeld3
namespace Go.Proofs.YtjkehgnelfgoaaaDoor
open Go.ChangeShapes Go.WideShapes Go.ChangeAt Go.RowKit
set_option maxRecDepth 100000
set_option linter.unusedVariables false
set_option linter.unusedSimpArgs false

/-- The clash of two rises from level i on down. -/
def rwC (k : Int) (zs p ys q : List Int) : Nat → Cl
  | 0 => lookC zs ys
  | i + 1 => ndC (ndQ k (sumL zs) p i).1 (ndQ k (sumL zs) p i).2 (ndQ k (sumL ys) q i).1 (ndQ k (sumL ys) q i).2 <|> rwC k zs p ys q i
theorem rwC_mp {l : List Sl} {k v : Int} {t : Bool} {p : List Int} : ∀ i, i ≤ 6 → rwC k (lfB k t v) p (slLeaf l k) (mpP l k) i = mpK l k t v p i
  | 0, _ => rfl
  | i + 1, h => by
    unfold rwC mpK
    rw [rwC_mp i (by omega), ndQ_path (by omega)]
theorem al_keep {n p : Nat} {X Y : World} {O : Obj} {cs : Array Value} {T : Nat} (h : Below n X (Y.alloc O)) (P : Blk Y p cs T) : Blk (Y.alloc O) p cs T := P.below ((Below.refl Y.heap.size Y).alloc (Nat.le_refl _) O) P.lt
theorem row_new {Y : World} {p : Nat} {old cs : Array Value} {T : Nat} (P : Blk Y p old T) : Blk (Y.setRow p cs) p cs T := setRow_heap Y p old cs T (0, 0) P
theorem row_keep {Y : World} {p q : Nat} {old cs : Array Value} {T : Nat} (h : q ≠ p) (P : Blk Y q old T) : Blk (Y.setRow p cs) q old T := (setRow_other Y p q cs h).trans P

theorem nd_at (f : Nat → Int × Int) {j : Nat} (hj : j < 6) : (ndA f 6)[j * 3]? = some (.int .i64 (f j).1) ∧ (ndA f 6)[j * 3 + 1]? = some (.int .i64 (f j).2) ∧ (ndA f 6)[j * 3 + 2]? = some (.bool false) := by
  have : j = 0 ∨ j = 1 ∨ j = 2 ∨ j = 3 ∨ j = 4 ∨ j = 5 := by omega
  rcases this with rfl | rfl | rfl | rfl | rfl | rfl <;> exact ⟨rfl, rfl, rfl⟩
theorem nd_one (f : Nat → Int × Int) : (ndA f 6).all (·.oneCell') = true := by kernel_rfl
theorem al_ne {Y : World} {q : Nat} {cs : Array Value} {T : Nat} (P : Blk Y q cs T) : q ≠ Y.heap.size := Nat.ne_of_lt P.lt
/-- How a walk ends whose clash may lie in memory that there was ahead of it: from B on, below N or new. -/
def WkB (B N : Nat) (x : Cl) (w : World) (e : Ending) (w' : World) : Prop :=
  Below w.heap.size w w' ∧ ((x = none ∧ e = .returned (.tuple #[])) ∨ ∃ y a1 c1 a2 c2, x = some y ∧ e = .panicked [{ v := .iface 45 (.agg #[.bool true, .slice a1 (y).1.length c1, .slice a2 (y).2.length c2]), recovered := false }] ∧ OwnC w' B a1 a2 c1 c2 y.1 y.2 ∧ ∀ a, a1 = some a ∨ a2 = some a → a.block < N ∨ w.heap.size ≤ a.block)
theorem OwnC.new {w w' : World} {a1 a2 : Option Addr} {c1 c2 : Nat} {xs ys : List Int} (h : OwnC w' w.heap.size a1 a2 c1 c2 xs ys) : ∀ a, a1 = some a ∨ a2 = some a → w.heap.size ≤ a.block := by
  rintro a (e | e)
  · exact own_base h.one a e
  · exact own_base h.two a e
theorem OwnC.old {w : World} {base : Nat} {a1 a2 : Option Addr} {c1 c2 : Nat} {xs ys : List Int} (h : OwnC w base a1 a2 c1 c2 xs ys) : ∀ a, a1 = some a ∨ a2 = some a → a.block < w.heap.size := by
  rintro a (e | e)
  · exact own_lt h.one a e
  · exact own_lt h.two a e
theorem OwnC.setNe {w : World} {base : Nat} {a1 a2 : Option Addr} {c1 c2 : Nat} {xs ys : List Int} (h : OwnC w base a1 a2 c1 c2 xs ys) (p : Addr) (u : Value) (hp : ∀ a, a1 = some a ∨ a2 = some a → a.block ≠ p.block) : OwnC (w.setCell p u) base a1 a2 c1 c2 xs ys :=
  ⟨own_blk h.one (fun x e => Below.heap_setCell _ _ _ _ (hp x (.inl e))), own_blk h.two (fun x e => Below.heap_setCell _ _ _ _ (hp x (.inr e))), h.apart⟩

set_option maxHeartbeats 8000000 in
theorem riseWalk1_any (B N pa pb : Nat) (key : Int) (la lb : Option Addr) (lc1 lc2 : Nat) (zs ys : List Int) (g1 o1 c1 g2 o2 c2 : Nat) (p q : List Int) (w : World) (hT : Tab w) (hk : 0 ≤ key ∧ key ≤ 63) (hOC : OwnC w B la lb lc1 lc2 zs ys) (hB : B ≤ w.heap.size) (hN : ∀ a, la = some a ∨ lb = some a → a.block < N) (hzs : Has w .u8 la zs.length zs) (hys : Has w .u8 lb ys.length ys) (l1 : zs.length ≤ 4) (l2 : ys.length ≤ 4) (hp : Has w .i64 (some ⟨g1, o1, none⟩) 6 p) (hq : Has w .i64 (some ⟨g2, o2, none⟩) 6 q) (hap : allS p = true) (haq : allS q = true) (RA : Blk w pa #[.int .i64 key, .slice la zs.length lc1, .slice (some ⟨g1, o1, none⟩) 6 c1] 74) (RB : Blk w pb #[.int .i64 key, .slice lb ys.length lc2, .slice (some ⟨g2, o2, none⟩) 6 c2] 74) :
    Calls Tryd.prog 90 #[.pointer (some ⟨pa, 0, none⟩), .pointer (some ⟨pb, 0, none⟩)] w (WkB B N (rwC key zs p ys q 6) w) := by
  have TH : Hid (∀ u : World, Below w.heap.size w u → Tab u) := fun u hu => hT.below hu (Nat.le_refl _)
  have ND1 : Hid (∀ u : World, Below w.heap.size w u → Calls Tryd.prog 83 #[.agg #[.int .i64 key, .slice la zs.length lc1, .slice (some ⟨g1, o1, none⟩) 6 c1]] u fun r w' => r = .returned (.agg (ndA (ndQ key (sumL zs) p) 6)) ∧ Below u.heap.size u w') := fun u hu => nodes_any key la lc1 zs g1 o1 c1 p u (TH.out u hu) hk (hzs.below hu (Nat.le_refl _)) l1 (hp.below hu (Nat.le_refl _)) hap
  have ND2 : Hid (∀ u : World, Below w.heap.size w u → Calls Tryd.prog 83 #[.agg #[.int .i64 key, .slice lb ys.length lc2, .slice (some ⟨g2, o2, none⟩) 6 c2]] u fun r w' => r = .returned (.agg (ndA (ndQ key (sumL ys) q) 6)) ∧ Below u.heap.size u w') := fun u hu => nodes_any key lb lc2 ys g2 o2 c2 q u (TH.out u hu) hk (hys.below hu (Nat.le_refl _)) l2 (hq.below hu (Nat.le_refl _)) haq
  have OLD : Hid (∀ wx : World, Below w.heap.size w wx → (wx.cell? ⟨pa, 0, none⟩ = some (.int .i64 key) ∧ wx.cell? ⟨pa, 1, none⟩ = some (.slice la zs.length lc1) ∧ wx.cell? ⟨pa, 2, none⟩ = some (.slice (some ⟨g1, o1, none⟩) 6 c1)) ∧ (wx.cell? ⟨pb, 0, none⟩ = some (.int .i64 key) ∧ wx.cell? ⟨pb, 1, none⟩ = some (.slice lb ys.length lc2) ∧ wx.cell? ⟨pb, 2, none⟩ = some (.slice (some ⟨g2, o2, none⟩) 6 c2))) := fun wx h => by
    have A := RA.below h RA.lt
    have B := RB.below h RB.lt
    exact ⟨⟨(A.cell 0).trans rfl, (A.cell 1).trans rfl, (A.cell 2).trans rfl⟩, ⟨(B.cell 0).trans rfl, (B.cell 1).trans rfl, (B.cell 2).trans rfl⟩⟩
  have LK : Hid (∀ u : World, Below w.heap.size w u → Calls Tryd.prog 92 #[.slice la zs.length lc1, .slice lb ys.length lc2] u fun e w' => Below u.heap.size u w' ∧ ((lookC zs ys = none ∧ e = .returned (.tuple #[])) ∨ (lookC zs ys = some (zs, ys) ∧ e = .panicked [{ v := .iface 45 (.agg #[.bool true, .slice la ((zs, ys)).1.length lc1, .slice lb ((zs, ys)).2.length lc2]), recovered := false }] ∧ OwnC w' B la lb lc1 lc2 zs ys))) := fun u hu => (lookIn_any la lb lc1 lc2 zs ys u (hzs.below hu (Nat.le_refl _)) (hys.below hu (Nat.le_refl _)) (by omega) (by omega)).mono fun e w' ⟨hb, h⟩ => ⟨hb, h.imp id (fun ⟨h1, h2⟩ => ⟨h1, h2, (hOC.below hu).below hb⟩)⟩
  have NH : Hid (∀ a, la = some a ∨ lb = some a → a.block < N) := hN
  have B1 : Hid (∀ j, (0 ≤ (ndQ key (sumL zs) p j).1 ∧ (ndQ key (sumL zs) p j).1 ≤ 65520) ∧ 0 ≤ (ndQ key (sumL zs) p j).2 ∧ (ndQ key (sumL zs) p j).2 ≤ 65520) := fun j => ndQ_bd key (sum_bd zs) hap j
  have B2 : Hid (∀ j, (0 ≤ (ndQ key (sumL ys) q j).1 ∧ (ndQ key (sumL ys) q j).1 ≤ 65520) ∧ 0 ≤ (ndQ key (sumL ys) q j).2 ∧ (ndQ key (sumL ys) q j).2 ≤ 65520) := fun j => ndQ_bd key (sum_bd ys) haq j
  have R0 : Hid (rwC key zs p ys q 0 = lookC zs ys) := rfl
  have RS : Hid (∀ i, rwC key zs p ys q (i + 1) = (ndC (ndQ key (sumL zs) p i).1 (ndQ key (sumL zs) p i).2 (ndQ key (sumL ys) q i).1 (ndQ key (sumL ys) q i).2 <|> rwC key zs p ys q i)) := fun i => rfl
  generalize rwC key zs p ys q = rw at *
  generalize ndQ key (sumL zs) p = f at *
  generalize ndQ key (sumL ys) q = g at *
  generalize lookC zs ys = LC at *
  clear hT hk hOC hzs hys l1 l2 hp hq hap haq RA RB hN
  go_enter Tryd.func90, Tryd.ntmps90
  go_upto_region 0 with fail
  go_cut [2, 3] (fun s2 s3 wx => ∃ VA VB : Nat, s2 = .pointer (some ⟨VA, 0, none⟩) ∧ s3 = .pointer (some ⟨VB, 0, none⟩) ∧ Blk wx VA (ndA f 6) 116 ∧ Blk wx VB (ndA g 6) 116 ∧ Below w.heap.size w wx)
  case first =>
    refine wp_region_noPanic ?_
    refine wp_region_held_drew (S := fun u => Below w.heap.size w u) (by kernel_rfl) ((Below.refl w.heap.size w).drew) (fun hs => ?_)
    obtain ⟨XD, hXD⟩ := al_w hs
    rw [← hXD] at hs
    simp only [← hXD]
    clear hXD
    refine take_at (i := 0) (d := some 6) (v := ?mv1) rfl rfl (by kernel_rfl) (by kernel_rfl) (by kernel_rfl) (fun _ _ _ h => h) (Or.inl ⟨by rfl, ?my1⟩) hs ?mg1
    case my1 => (intro z hSz; (obtain ⟨⟨e0, e1, e2⟩, ⟨e3, e4, e5⟩⟩ := OLD.out _ hSz); go_simp; (try with_reducible rfl))
    try simp only [Act.put, List.setIfInBounds_toArray, List.set_cons_zero, List.set_cons_succ]
    refine take_at (i := 2) (d := some 8) (v := ?mv2) rfl rfl (by kernel_rfl) (by kernel_rfl) (by kernel_rfl) (fun _ _ _ h => h) (Or.inl ⟨by rfl, ?my2⟩) hs ?mg2
    case my2 => (intro z hSz; (obtain ⟨⟨e0, e1, e2⟩, ⟨e3, e4, e5⟩⟩ := OLD.out _ hSz); go_simp; (try with_reducible rfl))
    try simp only [Act.put, List.setIfInBounds_toArray, List.set_cons_zero, List.set_cons_succ]
    refine wpAnyH_ready (rs := [1, 4, 5]) (by kernel_rfl) (by simp) ?_
    refine AllReadyH.cons rfl (fun K' hK' => ?_) (AllReadyH.cons rfl (fun K' hK' => ?_) (AllReadyH.cons rfl (fun K' hK' => ?_) AllReadyH.nil))
    · go_simp
      refine (ND1.out _ hs).mono ?_
      rintro _ ua ⟨rfl, hba⟩
      refine hK'.out _ _ (hs.trans (hba.mono hs.size)) (fun hs => ?_)
      clear hK' K'
      try simp only [Act.put, List.setIfInBounds_toArray, List.set_cons_zero, List.set_cons_succ]
      (try replace PA := PA.below hba PA.lt)
      (try replace PB := PB.below hba PB.lt)
      refine wpAnyH_ready (rs := [3, 4, 5]) (by kernel_rfl) (by simp) ?_
      refine AllReadyH.cons rfl (fun K' hK' => ?_) (AllReadyH.cons rfl (fun K' hK' => ?_) (AllReadyH.cons rfl (fun K' hK' => ?_) AllReadyH.nil))
      · go_simp
        refine (ND2.out _ hs).mono ?_
        rintro _ ub ⟨rfl, hbb⟩
        refine hK'.out _ _ (hs.trans (hbb.mono hs.size)) (fun hs => ?_)
        clear hK' K'
        try simp only [Act.put, List.setIfInBounds_toArray, List.set_cons_zero, List.set_cons_succ]
        (try replace PA := PA.below hbb PA.lt)
        (try replace PB := PB.below hbb PB.lt)
        refine wpAnyH_ready (rs := [4, 5]) (by kernel_rfl) (by simp) ?_
        refine AllReadyH.cons rfl (fun K' hK' => ?_) (AllReadyH.cons rfl (fun K' hK' => ?_) AllReadyH.nil)
        · have nVA := hs.size
          (try have NE := al_ne PB)
          go_simp
          refine hK'.out _ _ (hs.alloc hs.size _) (fun hs => ?_)
          clear hK' K'
          try simp only [Act.put, List.setIfInBounds_toArray, List.set_cons_zero, List.set_cons_succ]
          have PA := al_blk hs
          (try replace PB := al_keep hs PB)
          obtain ⟨A6, h6⟩ := al_w hs
          rw [← h6] at hs PA
          (try rw [← h6] at PB)
          simp only [← h6]
          clear h6
          obtain ⟨VA, hV⟩ := al_b PA
          rw [← hV] at PA nVA
          (try rw [← hV] at NE)
          simp only [← hV]
          clear hV
          refine wpAnyH_ready (rs := [5]) (by kernel_rfl) (by simp) ?_
          refine AllReadyH.cons rfl (fun K' hK' => ?_) AllReadyH.nil
          have nVB := hs.size
          (try have NE := al_ne PA)
          go_simp
          refine hK'.out _ _ (hs.alloc hs.size _) (fun hs => ?_)
          clear hK' K'
          try simp only [Act.put, List.setIfInBounds_toArray, List.set_cons_zero, List.set_cons_succ]
          have PB := al_blk hs
          (try replace PA := al_keep hs PA)
          obtain ⟨A6, h6⟩ := al_w hs
          rw [← h6] at hs PB
          (try rw [← h6] at PA)
          simp only [← h6]
          clear h6
          obtain ⟨VB, hV⟩ := al_b PB
          rw [← hV] at PB nVB
          (try rw [← hV] at NE)
          simp only [← hV]
          clear hV
          refine wpAnyH_ready (rs := [6]) (by kernel_rfl) (by simp) ?_
          refine AllReadyH.cons rfl (fun K' hK' => ?_) AllReadyH.nil
          refine wp_store_row 116 _ _ rfl VA (ndA f 6) rfl rfl 116 _ PA rfl rfl (nd_one f) ?_
          refine hK'.out _ _ (below_setRow hs nVA _) (fun hs => ?_)
          clear hK' K'
          try simp only [Act.put, List.setIfInBounds_toArray, List.set_cons_zero, List.set_cons_succ]
          (try replace PB := row_keep (cs := ndA f 6) (by first | exact NE | exact Ne.symm NE) PB)
          replace PA := row_new (cs := ndA f 6) PA
          obtain ⟨A7, h7⟩ := al_w hs
          rw [← h7] at hs PA
          (try rw [← h7] at PB)
          simp only [← h7]
          clear h7
          refine wpAnyH_ready (rs := [7]) (by kernel_rfl) (by simp) ?_
          refine AllReadyH.cons rfl (fun K' hK' => ?_) AllReadyH.nil
          refine wp_store_row 116 _ _ rfl VB (ndA g 6) rfl rfl 116 _ PB rfl rfl (nd_one g) ?_
          refine hK'.out _ _ (below_setRow hs nVB _) (fun hs => ?_)
          clear hK' K'
          try simp only [Act.put, List.setIfInBounds_toArray, List.set_cons_zero, List.set_cons_succ]
          (try replace PA := row_keep (cs := ndA g 6) (by first | exact NE | exact Ne.symm NE) PA)
          replace PB := row_new (cs := ndA g 6) PB
          obtain ⟨A7, h7⟩ := al_w hs
          rw [← h7] at hs PB
          (try rw [← h7] at PA)
          simp only [← h7]
          clear h7
          refine wpAnyH_done (by kernel_rfl) (NoPanic.normal ?_) _
          clear NE
          go_wp2_with fail
          go_meet
          exact ⟨_, _, rfl, rfl, PA, PB, hs⟩
        · have nVB := hs.size
          (try have NE := al_ne PA)
          go_simp
          refine hK'.out _ _ (hs.alloc hs.size _) (fun hs => ?_)
          clear hK' K'
          try simp only [Act.put, List.setIfInBounds_toArray, List.set_cons_zero, List.set_cons_succ]
          have PB := al_blk hs
          (try replace PA := al_keep hs PA)
          obtain ⟨A6, h6⟩ := al_w hs
          rw [← h6] at hs PB
          (try rw [← h6] at PA)
          simp only [← h6]
          clear h6
          obtain ⟨VB, hV⟩ := al_b PB
          rw [← hV] at PB nVB
          (try rw [← hV] at NE)
          simp only [← hV]
          clear hV
          refine wpAnyH_ready (rs := [4]) (by kernel_rfl) (by simp) ?_
          refine AllReadyH.cons rfl (fun K' hK' => ?_) AllReadyH.nil
          have nVA := hs.size
          (try have NE := al_ne PB)
          go_simp
          refine hK'.out _ _ (hs.alloc hs.size _) (fun hs => ?_)
          clear hK' K'
          try simp only [Act.put, List.setIfInBounds_toArray, List.set_cons_zero, List.set_cons_succ]
          have PA := al_blk hs
          (try replace PB := al_keep hs PB)
          obtain ⟨A6, h6⟩ := al_w hs
          rw [← h6] at hs PA
          (try rw [← h6] at PB)
          simp only [← h6]
          clear h6
          obtain ⟨VA, hV⟩ := al_b PA
          rw [← hV] at PA nVA
          (try rw [← hV] at NE)
          simp only [← hV]
          clear hV
          refine wpAnyH_ready (rs := [6]) (by kernel_rfl) (by simp) ?_
          refine AllReadyH.cons rfl (fun K' hK' => ?_) AllReadyH.nil
          refine wp_store_row 116 _ _ rfl VA (ndA f 6) rfl rfl 116 _ PA rfl rfl (nd_one f) ?_
          refine hK'.out _ _ (below_setRow hs nVA _) (fun hs => ?_)
          clear hK' K'
          try simp only [Act.put, List.setIfInBounds_toArray, List.set_cons_zero, List.set_cons_succ]
          (try replace PB := row_keep (cs := ndA f 6) (by first | exact NE | exact Ne.symm NE) PB)
          replace PA := row_new (cs := ndA f 6) PA
          obtain ⟨A7, h7⟩ := al_w hs
          rw [← h7] at hs PA
          (try rw [← h7] at PB)
          simp only [← h7]
          clear h7
          refine wpAnyH_ready (rs := [7]) (by kernel_rfl) (by simp) ?_
          refine AllReadyH.cons rfl (fun K' hK' => ?_) AllReadyH.nil
          refine wp_store_row 116 _ _ rfl VB (ndA g 6) rfl rfl 116 _ PB rfl rfl (nd_one g) ?_
          refine hK'.out _ _ (below_setRow hs nVB _) (fun hs => ?_)
          clear hK' K'
          try simp only [Act.put, List.setIfInBounds_toArray, List.set_cons_zero, List.set_cons_succ]
          (try replace PA := row_keep (cs := ndA g 6) (by first | exact NE | exact Ne.symm NE) PA)
          replace PB := row_new (cs := ndA g 6) PB
          obtain ⟨A7, h7⟩ := al_w hs
          rw [← h7] at hs PB
          (try rw [← h7] at PA)
          simp only [← h7]
          clear h7
          refine wpAnyH_done (by kernel_rfl) (NoPanic.normal ?_) _
          clear NE
          go_wp2_with fail
          go_meet
          exact ⟨_, _, rfl, rfl, PA, PB, hs⟩
      · have nVA := hs.size
        (try have NE := al_ne PB)
        go_simp
        refine hK'.out _ _ (hs.alloc hs.size _) (fun hs => ?_)
        clear hK' K'
        try simp only [Act.put, List.setIfInBounds_toArray, List.set_cons_zero, List.set_cons_succ]
        have PA := al_blk hs
        (try replace PB := al_keep hs PB)
        obtain ⟨A6, h6⟩ := al_w hs
        rw [← h6] at hs PA
        (try rw [← h6] at PB)
        simp only [← h6]
        clear h6
        obtain ⟨VA, hV⟩ := al_b PA
        rw [← hV] at PA nVA
        (try rw [← hV] at NE)
        simp only [← hV]
        clear hV
        refine wpAnyH_ready (rs := [3, 5]) (by kernel_rfl) (by simp) ?_
        refine AllReadyH.cons rfl (fun K' hK' => ?_) (AllReadyH.cons rfl (fun K' hK' => ?_) AllReadyH.nil)
        · go_simp
          refine (ND2.out _ hs).mono ?_
          rintro _ ub ⟨rfl, hbb⟩
          refine hK'.out _ _ (hs.trans (hbb.mono hs.size)) (fun hs => ?_)
          clear hK' K'
          try simp only [Act.put, List.setIfInBounds_toArray, List.set_cons_zero, List.set_cons_succ]
          (try replace PA := PA.below hbb PA.lt)
          (try replace PB := PB.below hbb PB.lt)
          refine wpAnyH_ready (rs := [5]) (by kernel_rfl) (by simp) ?_
          refine AllReadyH.cons rfl (fun K' hK' => ?_) AllReadyH.nil
          have nVB := hs.size
          (try have NE := al_ne PA)
          go_simp
          refine hK'.out _ _ (hs.alloc hs.size _) (fun hs => ?_)
          clear hK' K'
          try simp only [Act.put, List.setIfInBounds_toArray, List.set_cons_zero, List.set_cons_succ]
          have PB := al_blk hs
          (try replace PA := al_keep hs PA)
          obtain ⟨A6, h6⟩ := al_w hs
          rw [← h6] at hs PB
          (try rw [← h6] at PA)
          simp only [← h6]
          clear h6
          obtain ⟨VB, hV⟩ := al_b PB
          rw [← hV] at PB nVB
          (try rw [← hV] at NE)
          simp only [← hV]
          clear hV
          refine wpAnyH_ready (rs := [6]) (by kernel_rfl) (by simp) ?_
          refine AllReadyH.cons rfl (fun K' hK' => ?_) AllReadyH.nil
          refine wp_store_row 116 _ _ rfl VA (ndA f 6) rfl rfl 116 _ PA rfl rfl (nd_one f) ?_
          refine hK'.out _ _ (below_setRow hs nVA _) (fun hs => ?_)
          clear hK' K'
          try simp only [Act.put, List.setIfInBounds_toArray, List.set_cons_zero, List.set_cons_succ]
          (try replace PB := row_keep (cs := ndA f 6) (by first | exact NE | exact Ne.symm NE) PB)
          replace PA := row_new (cs := ndA f 6) PA
          obtain ⟨A7, h7⟩ := al_w hs
          rw [← h7] at hs PA
          (try rw [← h7] at PB)
          simp only [← h7]
          clear h7
          refine wpAnyH_ready (rs := [7]) (by kernel_rfl) (by simp) ?_
          refine AllReadyH.cons rfl (fun K' hK' => ?_) AllReadyH.nil
          refine wp_store_row 116 _ _ rfl VB (ndA g 6) rfl rfl 116 _ PB rfl rfl (nd_one g) ?_
          refine hK'.out _ _ (below_setRow hs nVB _) (fun hs => ?_)
          clear hK' K'
          try simp only [Act.put, List.setIfInBounds_toArray, List.set_cons_zero, List.set_cons_succ]
          (try replace PA := row_keep (cs := ndA g 6) (by first | exact NE | exact Ne.symm NE) PA)
          replace PB := row_new (cs := ndA g 6) PB
          obtain ⟨A7, h7⟩ := al_w hs
          rw [← h7] at hs PB
          (try rw [← h7] at PA)
          simp only [← h7]
          clear h7
          refine wpAnyH_done (by kernel_rfl) (NoPanic.normal ?_) _
          clear NE
          go_wp2_with fail
          go_meet
          exact ⟨_, _, rfl, rfl, PA, PB, hs⟩
        · have nVB := hs.size
          (try have NE := al_ne PA)
          go_simp
          refine hK'.out _ _ (hs.alloc hs.size _) (fun hs => ?_)
          clear hK' K'
          try simp only [Act.put, List.setIfInBounds_toArray, List.set_cons_zero, List.set_cons_succ]
          have PB := al_blk hs
          (try replace PA := al_keep hs PA)
          obtain ⟨A6, h6⟩ := al_w hs
          rw [← h6] at hs PB
          (try rw [← h6] at PA)
          simp only [← h6]
          clear h6
          obtain ⟨VB, hV⟩ := al_b PB
          rw [← hV] at PB nVB
          (try rw [← hV] at NE)
          simp only [← hV]
          clear hV
          refine wpAnyH_ready (rs := [3]) (by kernel_rfl) (by simp) ?_
          refine AllReadyH.cons rfl (fun K' hK' => ?_) AllReadyH.nil
          go_simp
          refine (ND2.out _ hs).mono ?_
          rintro _ ub ⟨rfl, hbb⟩
          refine hK'.out _ _ (hs.trans (hbb.mono hs.size)) (fun hs => ?_)
          clear hK' K'
          try simp only [Act.put, List.setIfInBounds_toArray, List.set_cons_zero, List.set_cons_succ]
          (try replace PA := PA.below hbb PA.lt)
          (try replace PB := PB.below hbb PB.lt)
          refine wpAnyH_ready (rs := [6]) (by kernel_rfl) (by simp) ?_
          refine AllReadyH.cons rfl (fun K' hK' => ?_) AllReadyH.nil
          refine wp_store_row 116 _ _ rfl VA (ndA f 6) rfl rfl 116 _ PA rfl rfl (nd_one f) ?_
          refine hK'.out _ _ (below_setRow hs nVA _) (fun hs => ?_)
          clear hK' K'
          try simp only [Act.put, List.setIfInBounds_toArray, List.set_cons_zero, List.set_cons_succ]
          (try replace PB := row_keep (cs := ndA f 6) (by first | exact NE | exact Ne.symm NE) PB)
          replace PA := row_new (cs := ndA f 6) PA
          obtain ⟨A7, h7⟩ := al_w hs
          rw [← h7] at hs PA
          (try rw [← h7] at PB)
          simp only [← h7]
          clear h7
          refine wpAnyH_ready (rs := [7]) (by kernel_rfl) (by simp) ?_
          refine AllReadyH.cons rfl (fun K' hK' => ?_) AllReadyH.nil
          refine wp_store_row 116 _ _ rfl VB (ndA g 6) rfl rfl 116 _ PB rfl rfl (nd_one g) ?_
          refine hK'.out _ _ (below_setRow hs nVB _) (fun hs => ?_)
          clear hK' K'
          try simp only [Act.put, List.setIfInBounds_toArray, List.set_cons_zero, List.set_cons_succ]
          (try replace PA := row_keep (cs := ndA g 6) (by first | exact NE | exact Ne.symm NE) PA)
          replace PB := row_new (cs := ndA g 6) PB
          obtain ⟨A7, h7⟩ := al_w hs
          rw [← h7] at hs PB
          (try rw [← h7] at PA)
          simp only [← h7]
          clear h7
          refine wpAnyH_done (by kernel_rfl) (NoPanic.normal ?_) _
          clear NE
          go_wp2_with fail
          go_meet
          exact ⟨_, _, rfl, rfl, PA, PB, hs⟩
      · have nVB := hs.size
        (try have NE := al_ne PA)
        go_simp
        refine hK'.out _ _ (hs.alloc hs.size _) (fun hs => ?_)
        clear hK' K'
        try simp only [Act.put, List.setIfInBounds_toArray, List.set_cons_zero, List.set_cons_succ]
        have PB := al_blk hs
        (try replace PA := al_keep hs PA)
        obtain ⟨A6, h6⟩ := al_w hs
        rw [← h6] at hs PB
        (try rw [← h6] at PA)
        simp only [← h6]
        clear h6
        obtain ⟨VB, hV⟩ := al_b PB
        rw [← hV] at PB nVB
        (try rw [← hV] at NE)
        simp only [← hV]
        clear hV
        refine wpAnyH_ready (rs := [3, 4]) (by kernel_rfl) (by simp) ?_
        refine AllReadyH.cons rfl (fun K' hK' => ?_) (AllReadyH.cons rfl (fun K' hK' => ?_) AllReadyH.nil)
        · go_simp
          refine (ND2.out _ hs).mono ?_
          rintro _ ub ⟨rfl, hbb⟩
          refine hK'.out _ _ (hs.trans (hbb.mono hs.size)) (fun hs => ?_)
          clear hK' K'
          try simp only [Act.put, List.setIfInBounds_toArray, List.set_cons_zero, List.set_cons_succ]
          (try replace PA := PA.below hbb PA.lt)
          (try replace PB := PB.below hbb PB.lt)
          refine wpAnyH_ready (rs := [4]) (by kernel_rfl) (by simp) ?_
          refine AllReadyH.cons rfl (fun K' hK' => ?_) AllReadyH.nil
          have nVA := hs.size
          (try have NE := al_ne PB)
          go_simp
          refine hK'.out _ _ (hs.alloc hs.size _) (fun hs => ?_)
          clear hK' K'
          try simp only [Act.put, List.setIfInBounds_toArray, List.set_cons_zero, List.set_cons_succ]
          have PA := al_blk hs
          (try replace PB := al_keep hs PB)
          obtain ⟨A6, h6⟩ := al_w hs
          rw [← h6] at hs PA
          (try rw [← h6] at PB)
          simp only [← h6]
          clear h6
          obtain ⟨VA, hV⟩ := al_b PA
          rw [← hV] at PA nVA
          (try rw [← hV] at NE)
          simp only [← hV]
          clear hV
          refine wpAnyH_ready (rs := [6]) (by kernel_rfl) (by simp) ?_
          refine AllReadyH.cons rfl (fun K' hK' => ?_) AllReadyH.nil
          refine wp_store_row 116 _ _ rfl VA (ndA f 6) rfl rfl 116 _ PA rfl rfl (nd_one f) ?_
          refine hK'.out _ _ (below_setRow hs nVA _) (fun hs => ?_)
          clear hK' K'
          try simp only [Act.put, List.setIfInBounds_toArray, List.set_cons_zero, List.set_cons_succ]
          (try replace PB := row_keep (cs := ndA f 6) (by first | exact NE | exact Ne.symm NE) PB)
          replace PA := row_new (cs := ndA f 6) PA
          obtain ⟨A7, h7⟩ := al_w hs
          rw [← h7] at hs PA
          (try rw [← h7] at PB)
          simp only [← h7]
          clear h7
          refine wpAnyH_ready (rs := [7]) (by kernel_rfl) (by simp) ?_
          refine AllReadyH.cons rfl (fun K' hK' => ?_) AllReadyH.nil
          refine wp_store_row 116 _ _ rfl VB (ndA g 6) rfl rfl 116 _ PB rfl rfl (nd_one g) ?_
          refine hK'.out _ _ (below_setRow hs nVB _) (fun hs => ?_)
          clear hK' K'
          try simp only [Act.put, List.setIfInBounds_toArray, List.set_cons_zero, List.set_cons_succ]
          (try replace PA := row_keep (cs := ndA g 6) (by first | exact NE | exact Ne.symm NE) PA)
          replace PB := row_new (cs := ndA g 6) PB
          obtain ⟨A7, h7⟩ := al_w hs
          rw [← h7] at hs PB
          (try rw [← h7] at PA)
          simp only [← h7]
          clear h7
          refine wpAnyH_done (by kernel_rfl) (NoPanic.normal ?_) _
          clear NE
          go_wp2_with fail
          go_meet
          exact ⟨_, _, rfl, rfl, PA, PB, hs⟩
        · have nVA := hs.size
          (try have NE := al_ne PB)
          go_simp
          refine hK'.out _ _ (hs.alloc hs.size _) (fun hs => ?_)
          clear hK' K'
          try simp only [Act.put, List.setIfInBounds_toArray, List.set_cons_zero, List.set_cons_succ]
          have PA := al_blk hs
          (try replace PB := al_keep hs PB)
          obtain ⟨A6, h6⟩ := al_w hs
          rw [← h6] at hs PA
          (try rw [← h6] at PB)
          simp only [← h6]
          clear h6
          obtain ⟨VA, hV⟩ := al_b PA
          rw [← hV] at PA nVA
          (try rw [← hV] at NE)
          simp only [← hV]
          clear hV
          refine wpAnyH_ready (rs := [3]) (by kernel_rfl) (by simp) ?_
          refine AllReadyH.cons rfl (fun K' hK' => ?_) AllReadyH.nil
          go_simp
          refine (ND2.out _ hs).mono ?_
          rintro _ ub ⟨rfl, hbb⟩
          refine hK'.out _ _ (hs.trans (hbb.mono hs.size)) (fun hs => ?_)
          clear hK' K'
          try simp only [Act.put, List.setIfInBounds_toArray, List.set_cons_zero, List.set_cons_succ]
          (try replace PA := PA.below hbb PA.lt)
          (try replace PB := PB.below hbb PB.lt)
          refine wpAnyH_ready (rs := [6]) (by kernel_rfl) (by simp) ?_
          refine AllReadyH.cons rfl (fun K' hK' => ?_) AllReadyH.nil
          refine wp_store_row 116 _ _ rfl VA (ndA f 6) rfl rfl 116 _ PA rfl rfl (nd_one f) ?_
          refine hK'.out _ _ (below_setRow hs nVA _) (fun hs => ?_)
          clear hK' K'
          try simp only [Act.put, List.setIfInBounds_toArray, List.set_cons_zero, List.set_cons_succ]
          (try replace PB := row_keep (cs := ndA f 6) (by first | exact NE | exact Ne.symm NE) PB)
          replace PA := row_new (cs := ndA f 6) PA
          obtain ⟨A7, h7⟩ := al_w hs
          rw [← h7] at hs PA
          (try rw [← h7] at PB)
          simp only [← h7]
          clear h7
          refine wpAnyH_ready (rs := [7]) (by kernel_rfl) (by simp) ?_
          refine AllReadyH.cons rfl (fun K' hK' => ?_) AllReadyH.nil
          refine wp_store_row 116 _ _ rfl VB (ndA g 6) rfl rfl 116 _ PB rfl rfl (nd_one g) ?_
          refine hK'.out _ _ (below_setRow hs nVB _) (fun hs => ?_)
          clear hK' K'
          try simp only [Act.put, List.setIfInBounds_toArray, List.set_cons_zero, List.set_cons_succ]
          (try replace PA := row_keep (cs := ndA g 6) (by first | exact NE | exact Ne.symm NE) PA)
          replace PB := row_new (cs := ndA g 6) PB
          obtain ⟨A7, h7⟩ := al_w hs
          rw [← h7] at hs PB
          (try rw [← h7] at PA)
          simp only [← h7]
          clear h7
          refine wpAnyH_done (by kernel_rfl) (NoPanic.normal ?_) _
          clear NE
          go_wp2_with fail
          go_meet
          exact ⟨_, _, rfl, rfl, PA, PB, hs⟩
    · have nVA := hs.size
      (try have NE := al_ne PB)
      go_simp
      refine hK'.out _ _ (hs.alloc hs.size _) (fun hs => ?_)
      clear hK' K'
      try simp only [Act.put, List.setIfInBounds_toArray, List.set_cons_zero, List.set_cons_succ]
      have PA := al_blk hs
      (try replace PB := al_keep hs PB)
      obtain ⟨A6, h6⟩ := al_w hs
      rw [← h6] at hs PA
      (try rw [← h6] at PB)
      simp only [← h6]
      clear h6
      obtain ⟨VA, hV⟩ := al_b PA
      rw [← hV] at PA nVA
      (try rw [← hV] at NE)
      simp only [← hV]
      clear hV
      refine wpAnyH_ready (rs := [1, 5]) (by kernel_rfl) (by simp) ?_
      refine AllReadyH.cons rfl (fun K' hK' => ?_) (AllReadyH.cons rfl (fun K' hK' => ?_) AllReadyH.nil)
      · go_simp
        refine (ND1.out _ hs).mono ?_
        rintro _ ua ⟨rfl, hba⟩
        refine hK'.out _ _ (hs.trans (hba.mono hs.size)) (fun hs => ?_)
        clear hK' K'
        try simp only [Act.put, List.setIfInBounds_toArray, List.set_cons_zero, List.set_cons_succ]
        (try replace PA := PA.below hba PA.lt)
        (try replace PB := PB.below hba PB.lt)
        refine wpAnyH_ready (rs := [3, 5]) (by kernel_rfl) (by simp) ?_
        refine AllReadyH.cons rfl (fun K' hK' => ?_) (AllReadyH.cons rfl (fun K' hK' => ?_) AllReadyH.nil)
        · go_simp
          refine (ND2.out _ hs).mono ?_
          rintro _ ub ⟨rfl, hbb⟩
          refine hK'.out _ _ (hs.trans (hbb.mono hs.size)) (fun hs => ?_)
          clear hK' K'
          try simp only [Act.put, List.setIfInBounds_toArray, List.set_cons_zero, List.set_cons_succ]
          (try replace PA := PA.below hbb PA.lt)
          (try replace PB := PB.below hbb PB.lt)
          refine wpAnyH_ready (rs := [5]) (by kernel_rfl) (by simp) ?_
          refine AllReadyH.cons rfl (fun K' hK' => ?_) AllReadyH.nil
          have nVB := hs.size
          (try have NE := al_ne PA)
          go_simp
          refine hK'.out _ _ (hs.alloc hs.size _) (fun hs => ?_)
          clear hK' K'
          try simp only [Act.put, List.setIfInBounds_toArray, List.set_cons_zero, List.set_cons_succ]
          have PB := al_blk hs
          (try replace PA := al_keep hs PA)
          obtain ⟨A6, h6⟩ := al_w hs
          rw [← h6] at hs PB
          (try rw [← h6] at PA)
          simp only [← h6]
          clear h6
          obtain ⟨VB, hV⟩ := al_b PB
          rw [← hV] at PB nVB
          (try rw [← hV] at NE)
          simp only [← hV]
          clear hV
          refine wpAnyH_ready (rs := [6]) (by kernel_rfl) (by simp) ?_
          refine AllReadyH.cons rfl (fun K' hK' => ?_) AllReadyH.nil
          refine wp_store_row 116 _ _ rfl VA (ndA f 6) rfl rfl 116 _ PA rfl rfl (nd_one f) ?_
          refine hK'.out _ _ (below_setRow hs nVA _) (fun hs => ?_)
          clear hK' K'
          try simp only [Act.put, List.setIfInBounds_toArray, List.set_cons_zero, List.set_cons_succ]
          (try replace PB := row_keep (cs := ndA f 6) (by first | exact NE | exact Ne.symm NE) PB)
          replace PA := row_new (cs := ndA f 6) PA
          obtain ⟨A7, h7⟩ := al_w hs
          rw [← h7] at hs PA
          (try rw [← h7] at PB)
          simp only [← h7]
          clear h7
          refine wpAnyH_ready (rs := [7]) (by kernel_rfl) (by simp) ?_
          refine AllReadyH.cons rfl (fun K' hK' => ?_) AllReadyH.nil
          refine wp_store_row 116 _ _ rfl VB (ndA g 6) rfl rfl 116 _ PB rfl rfl (nd_one g) ?_
          refine hK'.out _ _ (below_setRow hs nVB _) (fun hs => ?_)
          clear hK' K'
          try simp only [Act.put, List.setIfInBounds_toArray, List.set_cons_zero, List.set_cons_succ]
          (try replace PA := row_keep (cs := ndA g 6) (by first | exact NE | exact Ne.symm NE) PA)
          replace PB := row_new (cs := ndA g 6) PB
          obtain ⟨A7, h7⟩ := al_w hs
          rw [← h7] at hs PB
          (try rw [← h7] at PA)
          simp only [← h7]
          clear h7
          refine wpAnyH_done (by kernel_rfl) (NoPanic.normal ?_) _
          clear NE
          go_wp2_with fail
          go_meet
          exact ⟨_, _, rfl, rfl, PA, PB, hs⟩
        · have nVB := hs.size
          (try have NE := al_ne PA)
          go_simp
          refine hK'.out _ _ (hs.alloc hs.size _) (fun hs => ?_)
          clear hK' K'
          try simp only [Act.put, List.setIfInBounds_toArray, List.set_cons_zero, List.set_cons_succ]
          have PB := al_blk hs
          (try replace PA := al_keep hs PA)
          obtain ⟨A6, h6⟩ := al_w hs
          rw [← h6] at hs PB
          (try rw [← h6] at PA)
          simp only [← h6]
          clear h6
          obtain ⟨VB, hV⟩ := al_b PB
          rw [← hV] at PB nVB
          (try rw [← hV] at NE)
          simp only [← hV]
          clear hV
          refine wpAnyH_ready (rs := [3]) (by kernel_rfl) (by simp) ?_
          refine AllReadyH.cons rfl (fun K' hK' => ?_) AllReadyH.nil
          go_simp
          refine (ND2.out _ hs).mono ?_
          rintro _ ub ⟨rfl, hbb⟩
          refine hK'.out _ _ (hs.trans (hbb.mono hs.size)) (fun hs => ?_)
          clear hK' K'
          try simp only [Act.put, List.setIfInBounds_toArray, List.set_cons_zero, List.set_cons_succ]
          (try replace PA := PA.below hbb PA.lt)
          (try replace PB := PB.below hbb PB.lt)
          refine wpAnyH_ready (rs := [6]) (by kernel_rfl) (by simp) ?_
          refine AllReadyH.cons rfl (fun K' hK' => ?_) AllReadyH.nil
          refine wp_store_row 116 _ _ rfl VA (ndA f 6) rfl rfl 116 _ PA rfl rfl (nd_one f) ?_
          refine hK'.out _ _ (below_setRow hs nVA _) (fun hs => ?_)
          clear hK' K'
          try simp only [Act.put, List.setIfInBounds_toArray, List.set_cons_zero, List.set_cons_succ]
          (try replace PB := row_keep (cs := ndA f 6) (by first | exact NE | exact Ne.symm NE) PB)
          replace PA := row_new (cs := ndA f 6) PA
          obtain ⟨A7, h7⟩ := al_w hs
          rw [← h7] at hs PA
          (try rw [← h7] at PB)
          simp only [← h7]
          clear h7
          refine wpAnyH_ready (rs := [7]) (by kernel_rfl) (by simp) ?_
          refine AllReadyH.cons rfl (fun K' hK' => ?_) AllReadyH.nil
          refine wp_store_row 116 _ _ rfl VB (ndA g 6) rfl rfl 116 _ PB rfl rfl (nd_one g) ?_
          refine hK'.out _ _ (below_setRow hs nVB _) (fun hs => ?_)
          clear hK' K'
          try simp only [Act.put, List.setIfInBounds_toArray, List.set_cons_zero, List.set_cons_succ]
          (try replace PA := row_keep (cs := ndA g 6) (by first | exact NE | exact Ne.symm NE) PA)
          replace PB := row_new (cs := ndA g 6) PB
          obtain ⟨A7, h7⟩ := al_w hs
          rw [← h7] at hs PB
          (try rw [← h7] at PA)
          simp only [← h7]
          clear h7
          refine wpAnyH_done (by kernel_rfl) (NoPanic.normal ?_) _
          clear NE
          go_wp2_with fail
          go_meet
          exact ⟨_, _, rfl, rfl, PA, PB, hs⟩
      · have nVB := hs.size
        (try have NE := al_ne PA)
        go_simp
        refine hK'.out _ _ (hs.alloc hs.size _) (fun hs => ?_)
        clear hK' K'
        try simp only [Act.put, List.setIfInBounds_toArray, List.set_cons_zero, List.set_cons_succ]
        have PB := al_blk hs
        (try replace PA := al_keep hs PA)
        obtain ⟨A6, h6⟩ := al_w hs
        rw [← h6] at hs PB
        (try rw [← h6] at PA)
        simp only [← h6]
        clear h6
        obtain ⟨VB, hV⟩ := al_b PB
        rw [← hV] at PB nVB
        (try rw [← hV] at NE)
        simp only [← hV]
        clear hV
        refine wpAnyH_ready (rs := [1]) (by kernel_rfl) (by simp) ?_
        refine AllReadyH.cons rfl (fun K' hK' => ?_) AllReadyH.nil
        go_simp
        refine (ND1.out _ hs).mono ?_
        rintro _ ua ⟨rfl, hba⟩
        refine hK'.out _ _ (hs.trans (hba.mono hs.size)) (fun hs => ?_)
        clear hK' K'
        try simp only [Act.put, List.setIfInBounds_toArray, List.set_cons_zero, List.set_cons_succ]
        (try replace PA := PA.below hba PA.lt)
        (try replace PB := PB.below hba PB.lt)
        refine wpAnyH_ready (rs := [3]) (by kernel_rfl) (by simp) ?_
        refine AllReadyH.cons rfl (fun K' hK' => ?_) AllReadyH.nil
        go_simp
        refine (ND2.out _ hs).mono ?_
        rintro _ ub ⟨rfl, hbb⟩
        refine hK'.out _ _ (hs.trans (hbb.mono hs.size)) (fun hs => ?_)
        clear hK' K'
        try simp only [Act.put, List.setIfInBounds_toArray, List.set_cons_zero, List.set_cons_succ]
        (try replace PA := PA.below hbb PA.lt)
        (try replace PB := PB.below hbb PB.lt)
        refine wpAnyH_ready (rs := [6]) (by kernel_rfl) (by simp) ?_
        refine AllReadyH.cons rfl (fun K' hK' => ?_) AllReadyH.nil
        refine wp_store_row 116 _ _ rfl VA (ndA f 6) rfl rfl 116 _ PA rfl rfl (nd_one f) ?_
        refine hK'.out _ _ (below_setRow hs nVA _) (fun hs => ?_)
        clear hK' K'
        try simp only [Act.put, List.setIfInBounds_toArray, List.set_cons_zero, List.set_cons_succ]
        (try replace PB := row_keep (cs := ndA f 6) (by first | exact NE | exact Ne.symm NE) PB)
        replace PA := row_new (cs := ndA f 6) PA
        obtain ⟨A7, h7⟩ := al_w hs
        rw [← h7] at hs PA
        (try rw [← h7] at PB)
        simp only [← h7]
        clear h7
        refine wpAnyH_ready (rs := [7]) (by kernel_rfl) (by simp) ?_
        refine AllReadyH.cons rfl (fun K' hK' => ?_) AllReadyH.nil
        refine wp_store_row 116 _ _ rfl VB (ndA g 6) rfl rfl 116 _ PB rfl rfl (nd_one g) ?_
        refine hK'.out _ _ (below_setRow hs nVB _) (fun hs => ?_)
        clear hK' K'
        try simp only [Act.put, List.setIfInBounds_toArray, List.set_cons_zero, List.set_cons_succ]
        (try replace PA := row_keep (cs := ndA g 6) (by first | exact NE | exact Ne.symm NE) PA)
        replace PB := row_new (cs := ndA g 6) PB
        obtain ⟨A7, h7⟩ := al_w hs
        rw [← h7] at hs PB
        (try rw [← h7] at PA)
        simp only [← h7]
        clear h7
        refine wpAnyH_done (by kernel_rfl) (NoPanic.normal ?_) _
        clear NE
        go_wp2_with fail
        go_meet
        exact ⟨_, _, rfl, rfl, PA, PB, hs⟩
    · have nVB := hs.size
      (try have NE := al_ne PA)
      go_simp
      refine hK'.out _ _ (hs.alloc hs.size _) (fun hs => ?_)
      clear hK' K'
      try simp only [Act.put, List.setIfInBounds_toArray, List.set_cons_zero, List.set_cons_succ]
      have PB := al_blk hs
      (try replace PA := al_keep hs PA)
      obtain ⟨A6, h6⟩ := al_w hs
      rw [← h6] at hs PB
      (try rw [← h6] at PA)
      simp only [← h6]
      clear h6
      obtain ⟨VB, hV⟩ := al_b PB
      rw [← hV] at PB nVB
      (try rw [← hV] at NE)
      simp only [← hV]
      clear hV
      refine wpAnyH_ready (rs := [1, 4]) (by kernel_rfl) (by simp) ?_
      refine AllReadyH.cons rfl (fun K' hK' => ?_) (AllReadyH.cons rfl (fun K' hK' => ?_) AllReadyH.nil)
      · go_simp
        refine (ND1.out _ hs).mono ?_
        rintro _ ua ⟨rfl, hba⟩
        refine hK'.out _ _ (hs.trans (hba.mono hs.size)) (fun hs => ?_)
        clear hK' K'
        try simp only [Act.put, List.setIfInBounds_toArray, List.set_cons_zero, List.set_cons_succ]
        (try replace PA := PA.below hba PA.lt)
        (try replace PB := PB.below hba PB.lt)
        refine wpAnyH_ready (rs := [3, 4]) (by kernel_rfl) (by simp) ?_
        refine AllReadyH.cons rfl (fun K' hK' => ?_) (AllReadyH.cons rfl (fun K' hK' => ?_) AllReadyH.nil)
        · go_simp
          refine (ND2.out _ hs).mono ?_
          rintro _ ub ⟨rfl, hbb⟩
          refine hK'.out _ _ (hs.trans (hbb.mono hs.size)) (fun hs => ?_)
          clear hK' K'
          try simp only [Act.put, List.setIfInBounds_toArray, List.set_cons_zero, List.set_cons_succ]
          (try replace PA := PA.below hbb PA.lt)
          (try replace PB := PB.below hbb PB.lt)
          refine wpAnyH_ready (rs := [4]) (by kernel_rfl) (by simp) ?_
          refine AllReadyH.cons rfl (fun K' hK' => ?_) AllReadyH.nil
          have nVA := hs.size
          (try have NE := al_ne PB)
          go_simp
          refine hK'.out _ _ (hs.alloc hs.size _) (fun hs => ?_)
          clear hK' K'
          try simp only [Act.put, List.setIfInBounds_toArray, List.set_cons_zero, List.set_cons_succ]
          have PA := al_blk hs
          (try replace PB := al_keep hs PB)
          obtain ⟨A6, h6⟩ := al_w hs
          rw [← h6] at hs PA
          (try rw [← h6] at PB)
          simp only [← h6]
          clear h6
          obtain ⟨VA, hV⟩ := al_b PA
          rw [← hV] at PA nVA
          (try rw [← hV] at NE)
          simp only [← hV]
          clear hV
          refine wpAnyH_ready (rs := [6]) (by kernel_rfl) (by simp) ?_
          refine AllReadyH.cons rfl (fun K' hK' => ?_) AllReadyH.nil
          refine wp_store_row 116 _ _ rfl VA (ndA f 6) rfl rfl 116 _ PA rfl rfl (nd_one f) ?_
          refine hK'.out _ _ (below_setRow hs nVA _) (fun hs => ?_)
          clear hK' K'
          try simp only [Act.put, List.setIfInBounds_toArray, List.set_cons_zero, List.set_cons_succ]
          (try replace PB := row_keep (cs := ndA f 6) (by first | exact NE | exact Ne.symm NE) PB)
          replace PA := row_new (cs := ndA f 6) PA
          obtain ⟨A7, h7⟩ := al_w hs
          rw [← h7] at hs PA
          (try rw [← h7] at PB)
          simp only [← h7]
          clear h7
          refine wpAnyH_ready (rs := [7]) (by kernel_rfl) (by simp) ?_
          refine AllReadyH.cons rfl (fun K' hK' => ?_) AllReadyH.nil
          refine wp_store_row 116 _ _ rfl VB (ndA g 6) rfl rfl 116 _ PB rfl rfl (nd_one g) ?_
          refine hK'.out _ _ (below_setRow hs nVB _) (fun hs => ?_)
          clear hK' K'
          try simp only [Act.put, List.setIfInBounds_toArray, List.set_cons_zero, List.set_cons_succ]
          (try replace PA := row_keep (cs := ndA g 6) (by first | exact NE | exact Ne.symm NE) PA)
          replace PB := row_new (cs := ndA g 6) PB
          obtain ⟨A7, h7⟩ := al_w hs
          rw [← h7] at hs PB
          (try rw [← h7] at PA)
          simp only [← h7]
          clear h7
          refine wpAnyH_done (by kernel_rfl) (NoPanic.normal ?_) _
          clear NE
          go_wp2_with fail
          go_meet
          exact ⟨_, _, rfl, rfl, PA, PB, hs⟩
        · have nVA := hs.size
          (try have NE := al_ne PB)
          go_simp
          refine hK'.out _ _ (hs.alloc hs.size _) (fun hs => ?_)
          clear hK' K'
          try simp only [Act.put, List.setIfInBounds_toArray, List.set_cons_zero, List.set_cons_succ]
          have PA := al_blk hs
          (try replace PB := al_keep hs PB)
          obtain ⟨A6, h6⟩ := al_w hs
          rw [← h6] at hs PA
          (try rw [← h6] at PB)
          simp only [← h6]
          clear h6
          obtain ⟨VA, hV⟩ := al_b PA
          rw [← hV] at PA nVA
          (try rw [← hV] at NE)
          simp only [← hV]
          clear hV
          refine wpAnyH_ready (rs := [3]) (by kernel_rfl) (by simp) ?_
          refine AllReadyH.cons rfl (fun K' hK' => ?_) AllReadyH.nil
          go_simp
          refine (ND2.out _ hs).mono ?_
          rintro _ ub ⟨rfl, hbb⟩
          refine hK'.out _ _ (hs.trans (hbb.mono hs.size)) (fun hs => ?_)
          clear hK' K'
          try simp only [Act.put, List.setIfInBounds_toArray, List.set_cons_zero, List.set_cons_succ]
          (try replace PA := PA.below hbb PA.lt)
          (try replace PB := PB.below hbb PB.lt)
          refine wpAnyH_ready (rs := [6]) (by kernel_rfl) (by simp) ?_
          refine AllReadyH.cons rfl (fun K' hK' => ?_) AllReadyH.nil
          refine wp_store_row 116 _ _ rfl VA (ndA f 6) rfl rfl 116 _ PA rfl rfl (nd_one f) ?_
          refine hK'.out _ _ (below_setRow hs nVA _) (fun hs => ?_)
          clear hK' K'
          try simp only [Act.put, List.setIfInBounds_toArray, List.set_cons_zero, List.set_cons_succ]
          (try replace PB := row_keep (cs := ndA f 6) (by first | exact NE | exact Ne.symm NE) PB)
          replace PA := row_new (cs := ndA f 6) PA
          obtain ⟨A7, h7⟩ := al_w hs
          rw [← h7] at hs PA
          (try rw [← h7] at PB)
          simp only [← h7]
          clear h7
          refine wpAnyH_ready (rs := [7]) (by kernel_rfl) (by simp) ?_
          refine AllReadyH.cons rfl (fun K' hK' => ?_) AllReadyH.nil
          refine wp_store_row 116 _ _ rfl VB (ndA g 6) rfl rfl 116 _ PB rfl rfl (nd_one g) ?_
          refine hK'.out _ _ (below_setRow hs nVB _) (fun hs => ?_)
          clear hK' K'
          try simp only [Act.put, List.setIfInBounds_toArray, List.set_cons_zero, List.set_cons_succ]
          (try replace PA := row_keep (cs := ndA g 6) (by first | exact NE | exact Ne.symm NE) PA)
          replace PB := row_new (cs := ndA g 6) PB
          obtain ⟨A7, h7⟩ := al_w hs
          rw [← h7] at hs PB
          (try rw [← h7] at PA)
          simp only [← h7]
          clear h7
          refine wpAnyH_done (by kernel_rfl) (NoPanic.normal ?_) _
          clear NE
          go_wp2_with fail
          go_meet
          exact ⟨_, _, rfl, rfl, PA, PB, hs⟩
      · have nVA := hs.size
        (try have NE := al_ne PB)
        go_simp
        refine hK'.out _ _ (hs.alloc hs.size _) (fun hs => ?_)
        clear hK' K'
        try simp only [Act.put, List.setIfInBounds_toArray, List.set_cons_zero, List.set_cons_succ]
        have PA := al_blk hs
        (try replace PB := al_keep hs PB)
        obtain ⟨A6, h6⟩ := al_w hs
        rw [← h6] at hs PA
        (try rw [← h6] at PB)
        simp only [← h6]
        clear h6
        obtain ⟨VA, hV⟩ := al_b PA
        rw [← hV] at PA nVA
        (try rw [← hV] at NE)
        simp only [← hV]
        clear hV
        refine wpAnyH_ready (rs := [1]) (by kernel_rfl) (by simp) ?_
        refine AllReadyH.cons rfl (fun K' hK' => ?_) AllReadyH.nil
        go_simp
        refine (ND1.out _ hs).mono ?_
        rintro _ ua ⟨rfl, hba⟩
        refine hK'.out _ _ (hs.trans (hba.mono hs.size)) (fun hs => ?_)
        clear hK' K'
        try simp only [Act.put, List.setIfInBounds_toArray, List.set_cons_zero, List.set_cons_succ]
        (try replace PA := PA.below hba PA.lt)
        (try replace PB := PB.below hba PB.lt)
        refine wpAnyH_ready (rs := [3]) (by kernel_rfl) (by simp) ?_
        refine AllReadyH.cons rfl (fun K' hK' => ?_) AllReadyH.nil
        go_simp
        refine (ND2.out _ hs).mono ?_
        rintro _ ub ⟨rfl, hbb⟩
        refine hK'.out _ _ (hs.trans (hbb.mono hs.size)) (fun hs => ?_)
        clear hK' K'
        try simp only [Act.put, List.setIfInBounds_toArray, List.set_cons_zero, List.set_cons_succ]
        (try replace PA := PA.below hbb PA.lt)
        (try replace PB := PB.below hbb PB.lt)
        refine wpAnyH_ready (rs := [6]) (by kernel_rfl) (by simp) ?_
        refine AllReadyH.cons rfl (fun K' hK' => ?_) AllReadyH.nil
        refine wp_store_row 116 _ _ rfl VA (ndA f 6) rfl rfl 116 _ PA rfl rfl (nd_one f) ?_
        refine hK'.out _ _ (below_setRow hs nVA _) (fun hs => ?_)
        clear hK' K'
        try simp only [Act.put, List.setIfInBounds_toArray, List.set_cons_zero, List.set_cons_succ]
        (try replace PB := row_keep (cs := ndA f 6) (by first | exact NE | exact Ne.symm NE) PB)
        replace PA := row_new (cs := ndA f 6) PA
        obtain ⟨A7, h7⟩ := al_w hs
        rw [← h7] at hs PA
        (try rw [← h7] at PB)
        simp only [← h7]
        clear h7
        refine wpAnyH_ready (rs := [7]) (by kernel_rfl) (by simp) ?_
        refine AllReadyH.cons rfl (fun K' hK' => ?_) AllReadyH.nil
        refine wp_store_row 116 _ _ rfl VB (ndA g 6) rfl rfl 116 _ PB rfl rfl (nd_one g) ?_
        refine hK'.out _ _ (below_setRow hs nVB _) (fun hs => ?_)
        clear hK' K'
        try simp only [Act.put, List.setIfInBounds_toArray, List.set_cons_zero, List.set_cons_succ]
        (try replace PA := row_keep (cs := ndA g 6) (by first | exact NE | exact Ne.symm NE) PA)
        replace PB := row_new (cs := ndA g 6) PB
        obtain ⟨A7, h7⟩ := al_w hs
        rw [← h7] at hs PB
        (try rw [← h7] at PA)
        simp only [← h7]
        clear h7
        refine wpAnyH_done (by kernel_rfl) (NoPanic.normal ?_) _
        clear NE
        go_wp2_with fail
        go_meet
        exact ⟨_, _, rfl, rfl, PA, PB, hs⟩
  case rest =>
    obtain ⟨VA, VB, rfl, rfl, PA, PB, W1⟩ := hcut
    generalize wc = W0 at *
    have CA : Hid (∀ (j : Nat) (wx : World), j < 6 → Below W0.heap.size W0 wx → (wx.cell? ⟨VA, j * 3, none⟩ = some (.int .i64 (f j).1) ∧ wx.cell? ⟨VA, j * 3 + 1, none⟩ = some (.int .i64 (f j).2) ∧ wx.cell? ⟨VA, j * 3 + 2, none⟩ = some (.bool false)) ∧ (wx.cell? ⟨VB, j * 3, none⟩ = some (.int .i64 (g j).1) ∧ wx.cell? ⟨VB, j * 3 + 1, none⟩ = some (.int .i64 (g j).2) ∧ wx.cell? ⟨VB, j * 3 + 2, none⟩ = some (.bool false))) := fun j wx hj h => by
      have A := PA.below h PA.lt
      have B := PB.below h PB.lt
      obtain ⟨a0, a1, a2⟩ := nd_at f hj
      obtain ⟨b0, b1, b2⟩ := nd_at g hj
      exact ⟨⟨(A.cell _).trans a0, (A.cell _).trans a1, (A.cell _).trans a2⟩, ⟨(B.cell _).trans b0, (B.cell _).trans b1, (B.cell _).trans b2⟩⟩
    have VE : Hid (∀ wx : World, Below W0.heap.size W0 wx → Below w.heap.size w wx) := fun wx h => W1.trans (h.mono W1.size)
    clear PA PB ND1 ND2
    have W0B : Below W0.heap.size W0 W0 := Below.refl _ _
    go_wp2_with fail
    go_loopw [10] (fun i wr => ∃ j : Nat, j ≤ 6 ∧ i = .int .i64 (6 - (j : Int)) ∧ rw 6 = rw j ∧ Below W0.heap.size W0 wr) (fun i _ => (6 - intOf i).toNat)
    case atStart => exact ⟨6, Nat.le_refl _, by simp, rfl, W0B⟩
    case round =>
      clear W0B
      obtain ⟨j', hj, rfl, hK, BR⟩ := hrel
      cases j' with
      | zero =>
        have hK' : Hid (rw 6 = LC) := hK.trans R0.out
        obtain ⟨⟨p0, p1, p2⟩, ⟨p3, p4, p5⟩⟩ := OLD.out _ (VE.out _ BR)
        have hz : ¬ (6 : Int) - ((0 : Nat) : Int) < 6 := by decide
        clear hK R0 RS OLD CA
        go_wp2_with fail
        refine (LK.out _ (VE.out _ BR)).mono ?_
        rintro e u1 ⟨hb1, h⟩
        have B1 := (VE.out _ BR).trans (hb1.mono (VE.out _ BR).size)
        rcases h with ⟨hn, rfl⟩ | ⟨hn, rfl, OC⟩
        · go_wp2
          go_end0
          rw [hK'.out, hn]
          exact ⟨B1, .inl ⟨rfl, rfl⟩⟩
        · rw [hK'.out, hn]
          exact ⟨rfl, B1, .inr ⟨(zs, ys), la, lc1, lb, lc2, rfl, rfl, OC, fun a h => .inl (NH.out a h)⟩⟩
      | succ j =>
        have hj6 : j < 6 := by omega
        have HLP : Hid (rw 6 = (ndC (f j).1 (f j).2 (g j).1 (g j).2 <|> rw j)) := hK.trans (RS.out j)
        have bf := B1.out j
        have bg := B2.out j
        have TR := TH.out _ (VE.out _ BR)
        have CJ := CA.out j
        generalize (f j).1 = fa at *
        generalize (f j).2 = fb at *
        generalize (g j).1 = ga at *
        generalize (g j).2 = gb at *
        have LL : Hid (∀ u : World, Below W0.heap.size W0 u → Calls Tryd.prog 91 #[.agg #[.int .i64 fa, .int .i64 fb, .bool false], .agg #[.int .i64 ga, .int .i64 gb, .bool false]] u (WkE (ndC fa fb ga gb) u)) := fun u hu => lookInNodes_any fa fb ga gb u (TH.out _ (VE.out _ hu)) bf.1 bf.2 bg.1 bg.2
        generalize ndC fa fb ga gb = X1 at *
        have c0 : ∀ wx : World, Below W0.heap.size W0 wx → wx.cell? ⟨VA, j * 3, none⟩ = some (.int .i64 fa) := fun wx h => (CJ wx hj6 h).1.1
        have c1 : ∀ wx : World, Below W0.heap.size W0 wx → wx.cell? ⟨VA, j * 3 + 1, none⟩ = some (.int .i64 fb) := fun wx h => (CJ wx hj6 h).1.2.1
        have c2 : ∀ wx : World, Below W0.heap.size W0 wx → wx.cell? ⟨VA, j * 3 + 2, none⟩ = some (.bool false) := fun wx h => (CJ wx hj6 h).1.2.2
        have c3 : ∀ wx : World, Below W0.heap.size W0 wx → wx.cell? ⟨VB, j * 3, none⟩ = some (.int .i64 ga) := fun wx h => (CJ wx hj6 h).2.1
        have c4 : ∀ wx : World, Below W0.heap.size W0 wx → wx.cell? ⟨VB, j * 3 + 1, none⟩ = some (.int .i64 gb) := fun wx h => (CJ wx hj6 h).2.2.1
        have c5 : ∀ wx : World, Below W0.heap.size W0 wx → wx.cell? ⟨VB, j * 3 + 2, none⟩ = some (.bool false) := fun wx h => (CJ wx hj6 h).2.2.2
        obtain ⟨d, hd⟩ : ∃ d : Int, (6 : Int) - ((j + 1 : Nat) : Int) = d := ⟨_, rfl⟩
        rw [hd]
        have e5 : (5 : Int) - d = (j : Int) := by omega
        have d0 : 0 ≤ d := by omega
        have d6 : d < 6 := by omega
        have q0 : (0 : Int) ≤ (j : Int) := by omega
        have q6 : (j : Int) < 6 := by omega
        have HD : Hid (d + 1 = 6 - (j : Int)) := by show _ = _; omega
        have BRH : Hid (Below W0.heap.size W0 wr) := BR
        have U0 : Below W0.heap.size W0 wr.drew := BR.drew
        clear hK R0 RS OLD CA CJ LK B1 B2 bf bg hj TR hd
        go_wp2_with fail
        go_region_held2 (fun wx => Below W0.heap.size W0 wx)
          ((first | exact U0 | exact U1))
          ((first | (go_at_call 91; refine (LL.out _ U0).mono ?_; rintro e ua ⟨hba, h⟩; have U1 : Below W0.heap.size W0 ua := U0.trans (hba.mono U0.size); (rcases h with ⟨hn, rfl⟩ | hp); rotate_left; (obtain ⟨y, a1, k1, a2, k2, hX, rfl, OC⟩ := hp); (have hV := VE.out _ U0); (exact ⟨rfl, hV.trans (hba.mono hV.size), .inr ⟨y, a1, k1, a2, k2, by rw [HLP.out, hX]; rfl, rfl, OC.mono (Nat.le_trans hB hV.size), fun a h => .inr (Nat.le_trans hV.size (OC.new a h))⟩⟩)) | fail))
        subst hn
        have HL : Hid (rw 6 = rw j) := by show _ = _; rw [HLP.out]; rfl
        clear HLP c0 c1 c2 c3 c4 c5 U0 LL
        go_wp2
        go_roundw
        case rel => exact ⟨j, by omega, by go_num, HL.out, U1⟩
        case measure => simp [intOf]; omega

end Go.Proofs.YtjkehgnelfgoaaaDoor
