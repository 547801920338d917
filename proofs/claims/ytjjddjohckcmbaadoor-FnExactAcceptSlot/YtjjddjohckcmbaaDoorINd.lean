/- Contracts: the program's level above another one. Contracts: the program's leaves of a map, and their sums. Contracts: the program's rise of a key through the levels of a map. Contracts: the program's nodes of a rise, and its root. -/
import Derived.Test.YtjjddjohckcmbaaDoorLvR
import Derived.Test.YtjjddjohckcmbaaDoorSlQ
import Derived.Test.YtjjddjohckcmbaaDoorMoves
import Derived.Test.YtjjddjohckcmbaaDoorLvl
import Derived.Scope
import Derived.Test.YtjjddjohckcmbaaDoorMapI
import Derived.Test.YtjjddjohckcmbaaDoorSlC
import Derived.Test.YtjjddjohckcmbaaDoorISums
import Derived.Laws.Bits64
import Derived.Laws.Shifts
import Derived.Laws.CopyOwn
namespace Go.Proofs.YtjjddjohckcmbaaDoor
open Go.ChangeShapes Go.WideShapes Go.ChangeAt Go.RowKit
set_option linter.unusedVariables false
set_option linter.unusedSimpArgs false

attribute [local go_sem] Oper.semAt_some

/-- The state of the rounds: where the level above lies, and what it holds. -/
structure AbS (V : Nat) (W0 : World) (us : List Int) (W : World) (av : Value) : Prop where
  v : Blk W V #[av] 27
  arow : W.ownsRow W0.heap.size 2 1 av us.length (us.map (.int .i64))
  fr : Fr (fun k => k = V) W0 W
theorem AbS.below {V : Nat} {W0 W W' : World} {us : List Int} {av : Value} (h : AbS V W0 us W av) (hb : Below W.heap.size W W') : AbS V W0 us W' av :=
  ⟨h.v.below hb h.v.lt, own_fr (M := fun _ => False) h.arow (.of_below hb (Nat.le_refl _)) (fun _ _ => id), h.fr.trans (M' := fun _ => False) (.of_below hb (Nat.le_refl _)) (fun _ _ e => e.elim)⟩
theorem AbS.kept {V : Nat} {W0 W W' : World} {us : List Int} {av : Value} {row : Option Nat} (h : AbS V W0 us W av) (hV : V < W0.heap.size) (hg : W.grownBy W' row) (hr : ∀ k, row = some k → W0.heap.size ≤ k ∧ ∃ o : Obj, W.heap[k]? = some o ∧ o.isCells = false) : AbS V W0 us W' av := by
  have hf : Fr (fun k => row = some k) W W' := .of_grown hg (fun k e => e)
  refine ⟨h.v.fr hf (fun e => by have := (hr V e).1; omega), own_fr h.arow hf (fun g e1 e2 => ?_), h.fr.trans hf (fun i hi e => by have := (hr i e).1; omega)⟩
  obtain ⟨cs, hc⟩ := own_cells h.arow e1
  obtain ⟨_, o, ho, hn⟩ := hr g e2
  rw [hc] at ho; cases ho; cases hn
theorem AbS.appendV {V : Nat} {W0 W W2 W3 : World} {av av' : Value} {x : Int} {us : List Int} (h : AbS V W0 us W av) (hV : V < W0.heap.size)
    (hb : Below W.heap.size W W2) (hown : W3.ownsRow W0.heap.size 2 1 av' (us.length + 1) (us.map (.int .i64) ++ [.int .i64 x])) (hg : W2.grownBy W3 av.ownBlock) :
    AbS V W0 (us ++ [x]) (W3.setCell ⟨V, 0, none⟩ av') av' ∧ Fr (fun k => k = V ∨ av.ownBlock = some k) W (W3.setCell ⟨V, 0, none⟩ av') ∧ Blk W3 V #[av] 27 := by
  have h2 := h.below hb
  have f3 : Fr (fun k => av.ownBlock = some k) W2 W3 := .of_grown hg (fun k e => e)
  have hav : ∀ k, av.ownBlock = some k → W0.heap.size ≤ k := fun k e => (h2.arow.lt k e).1
  have v3 : Blk W3 V #[av] 27 := h2.v.fr f3 (fun e => by have := hav V e; omega)
  have fs : Fr (fun k => k = V) W3 (W3.setCell ⟨V, 0, none⟩ av') := (Fr.refl _ _).setCell _ _ rfl
  refine ⟨⟨by have := v3.set 0 av'; simpa using this, ?_, ?_⟩, ?_, v3⟩
  · have := own_fr hown fs (fun g e1 e2 => by have := (hown.lt g e1).1; omega)
    simpa using this
  · refine (h2.fr.trans f3 (fun i hi e => ?_)).trans fs (fun i hi e => e)
    have := hav i e; omega
  · exact ((Fr.of_below hb (Nat.le_refl _)).trans f3 (fun i _ e => .inr e)).trans fs (fun i _ e => .inl e)
/-- What a round owes to the loop over the iterator. -/
theorem AbS.pays {V B bl : Nat} {W0 W W' : World} {av : Value} {us : List Int} (h : AbS V W0 us W av) (hV : V < W0.heap.size)
    (hB : B < W0.heap.size) (hbl : bl < W0.heap.size) (nB : B ≠ V) (nb : bl ≠ V) (hf : Fr (fun k => k = V ∨ av.ownBlock = some k) W W') : KeepsFrom W0.heap.size W W' ∧ KpB (fun k => k = B ∨ k = bl) W W' := by
  refine ⟨⟨hf.size, fun k o hk ho hn => ?_⟩, fun k hk => ?_⟩
  · refine (hf.block k (Array.getElem?_eq_some_iff.1 ho).1 ?_).trans ho
    rintro (e | e)
    · omega
    · obtain ⟨cs, hc⟩ := own_cells h.arow e
      rw [hc] at ho; cases ho; cases hn
  · have hk0 : k < W0.heap.size ∧ k ≠ V := by
      rcases hk with rfl | rfl
      · exact ⟨hB, nB⟩
      · exact ⟨hbl, nb⟩
    refine hf.block k (Nat.lt_of_lt_of_le hk0.1 h.fr.size) ?_
    rintro (e | e)
    · exact hk0.2 e
    · have := (h.arow.lt k e).1
      omega
/-- The activation of a round. -/
def actA (V bl off n lc k Bx : Nat) (A1 B1 : Int) (L1 : Bool) : Act :=
  { tmps := #[.slice (some ⟨bl, off, none⟩) n lc, undef, .slice none 0 0, .pointer (some ⟨V, 0, none⟩), undef, .pointer (some ⟨Bx, 0, none⟩), .slice (some ⟨bl, off, none⟩) n lc, .func (.func 115) #[] #[.pointer (some ⟨V + 1, 0, none⟩)], .int .i64 k, .agg #[.int .i64 A1, .int .i64 B1, .bool L1], undef, undef, undef, undef, undef, undef], defers := [] }

set_option maxRecDepth 100000 in
set_option maxHeartbeats 4000000 in
theorem levelAbove_any (x : Option Addr) (c : Nat) (zs : List Int) (w : World) (hT : Tab w) (hp : Has w .i64 x zs.length zs) (hl : zs.length ≤ 1000) (hpos : 1 ≤ zs.length) (hall : allS zs = true) :
    Calls Tryd.prog 88 #[.slice x zs.length c] w fun r w' => ∃ pa pc, r = .returned (.slice pa (upL nS zs).length pc) ∧ OwnI w' w.heap.size (.slice pa (upL nS zs).length pc) (upL nS zs) ∧ Below w.heap.size w w' := by
  obtain ⟨i0, hi0, hz0, hz1, hz2⟩ := info_parts info64
  obtain ⟨bl, off, rfl, hblt, hcell⟩ : ∃ b off, x = some ⟨b, off, none⟩ ∧ b < w.heap.size ∧ ∀ i, i < zs.length → w.cell? ⟨b, off + i, none⟩ = some (.int .i64 (zs.getD i 0)) := by
    rcases hp.2.2 with h | h
    · omega
    · exact h
  refine (callsIn_wide (n := 5)).1 ?_
  refine callsIn_of_wp_marks Tryd.func88 rfl trivial ?_ rfl
  simp only [Tryd.ntmps88, List.size_toArray, List.length_cons, List.length_nil, Nat.reduceAdd, Nat.reduceSub, Array.replicate_succ, Array.replicate_zero, List.push_toArray, List.append_toArray, List.nil_append, List.cons_append]
  gi_wp2_with (refine ⟨trivial, ?_⟩; gi_at_call 107; refine (callsIn_wide.2 (pairsOf_any _ _ _ _)).mono ?_; rintro r u2 ⟨rfl, rfl⟩)
  obtain ⟨V, hV⟩ : ∃ V, V = w.heap.size := ⟨_, rfl⟩
  have aS : ∀ o : Obj, Below w.heap.size w (w.alloc o) := fun o => (Below.refl _ _).alloc (Nat.le_refl _) o
  have b0 : Below w.heap.size w ((w.alloc (.cells #[.slice none 0 0] 27)).alloc (.cells #[.slice (some ⟨bl, off, none⟩) zs.length c] 27)) := (aS _).alloc (by simp) _
  have hVb : Blk ((w.alloc (.cells #[.slice none 0 0] 27)).alloc (.cells #[.slice (some ⟨bl, off, none⟩) zs.length c] 27)) V #[.slice none 0 0] 27 := by
    rw [hV]; exact (Blk.new w #[.slice none 0 0] 27).below ((Below.refl _ _).alloc (Nat.le_refl _) _) (by simp)
  have hBb : Blk ((w.alloc (.cells #[.slice none 0 0] 27)).alloc (.cells #[.slice (some ⟨bl, off, none⟩) zs.length c] 27)) (V + 1) #[.slice (some ⟨bl, off, none⟩) zs.length c] 27 := by
    have := Blk.new (w.alloc (.cells #[.slice none 0 0] 27)) #[.slice (some ⟨bl, off, none⟩) zs.length c] 27
    rw [World.size_alloc] at this
    rw [hV]; exact this
  have hsz : ((w.alloc (.cells #[.slice none 0 0] 27)).alloc (.cells #[.slice (some ⟨bl, off, none⟩) zs.length c] 27)).heap.size = V + 2 := by simp [hV]
  rw [← hV]
  generalize (w.alloc (.cells #[.slice none 0 0] 27)).alloc (.cells #[.slice (some ⟨bl, off, none⟩) zs.length c] 27) = W0 at *
  have I0 : AbS V W0 [] W0 (.slice none 0 0) := ⟨hVb, World.ownsRow_nil _ _ _ _, Fr.refl _ _⟩
  have hcell0 : ∀ j, j < zs.length → W0.cell? ⟨bl, off + j, none⟩ = some (.int .i64 (zs[j]?.getD 0)) := fun j hj => by rw [b0.cell (p := ⟨bl, off + j, none⟩) hblt, hcell j hj, List.getD_eq_getElem?_getD]
  have hbV : bl < V := by omega
  have TabOf : Hid (∀ Y : World, Fr (fun k => k = V) W0 Y → Tab Y) := fun Y hf => hT.below (b0.trans (hf.below (B := w.heap.size) (by rintro j e; omega) (by omega))) (Nat.le_refl _)
  have BWF : Hid (∀ Y : World, Fr (fun k => k = V) W0 Y → Below w.heap.size w Y) := fun Y hf => b0.trans (hf.below (B := w.heap.size) (by rintro j e; omega) (by omega))
  have WV : Hid (V = w.heap.size) := hV
  have hs1 : V + 2 ≤ W0.heap.size := by omega
  have hs2 : W0.heap.size ≤ V + 2 := by omega
  clear hcell b0 aS hV hsz hblt hT hp
  refine wpIn_rangeFunc_ownH (F := Fence.wide) rfl (by decide) (gf := 115) (lb := #[.pointer (some ⟨V + 1, 0, none⟩)]) rfl trivial (enters_of Tryd.func115 (by kernel_rfl) rfl)
    (pairs_stops 4 (V + 1) bl off c zs (Nat.le_trans hl (by decide)) hpos W0 (by have := hBb.cell 0; simpa using this) hcell0) (fun h k b hb => (k b hb).trans (h b hb))
    (fun X l o o' hl _ _ _ b hb => World.putObj_heap_other (by rcases hb with rfl | rfl <;> omega)) (Below.refl _ _) (fun _ => rfl)
    (fun pre X => ∃ av, AbS V W0 (pre.map (fun x => jP zs x.1)) X av) (fun _ _ _ => False)
    (fun s X Y row hs hg hr => by obtain ⟨av, h⟩ := hs; exact ⟨av, h.kept (by omega) hg hr⟩) (fun _ _ _ _ _ hs _ _ => hs) ⟨.slice none 0 0, I0⟩
    (fun x0 b' X => ∃ Bx, W0.heap.size ≤ Bx ∧ Blk X Bx #[.int .i64 (pA zs x0.1), .int .i64 (pB zs x0.1), .bool (pL zs x0.1)] 121 ∧ b' = actA V bl off zs.length c x0.1 Bx (pA zs x0.1) (pB zs x0.1) (pL zs x0.1))
    (fun x0 b' s X Y row hs hg hr => by
      obtain ⟨Bx, h1, h2, h3⟩ := hs
      refine ⟨Bx, h1, h2.fr (M := fun k => row = some k) (.of_grown hg (fun k e => e)) (fun e => ?_), h3⟩
      obtain ⟨_, o, ho, hn⟩ := hr Bx e
      rw [show X.heap[Bx]? = _ from h2] at ho; cases ho; cases hn) ?assign ?body ?done ?stop
  case assign =>
    rintro l pre x0 X K' ⟨av, hi⟩ hK'
    unfold encP
    gi_wp2
    exact hK' _ _ ((KeepsOthers.alloc X _).from _) (fun b hb => Below.heap_alloc X _ b (by have := hi.fr.size; rcases hb with rfl | rfl <;> omega)) ⟨av, hi.below ((Below.refl _ _).alloc (Nat.le_refl _) _)⟩ ⟨X.heap.size, hi.fr.size, Blk.new _ _ _, rfl⟩
  case body =>
    rintro l pre ⟨k, hk⟩ b' X hl' - ⟨av, hi⟩ ⟨Bx, hBx, bX, rfl⟩ hlt
    dsimp only at bX ⊢
    have hA := pA_bd hall k hk
    have hB := pB_bd hall k hk
    have HJ : Hid (jP zs k = jn (pA zs k) (pB zs k) (pL zs k)) := rfl
    have TX : Hid (Tab X) := TabOf.out _ hi.fr
    generalize pA zs k = A1 at *
    generalize pB zs k = B1 at *
    generalize pL zs k = L1 at *
    have p0 := bX.cell 0
    have p1 := bX.cell 1
    have p2 := bX.cell 2
    simp at p0 p1 p2
    have hu : (pre.map (fun x => jP zs x.1)).length ≤ 600 := by simp; omega
    generalize hus : pre.map (fun x => jP zs x.1) = us at *
    have FIN : ∀ (Y : World) (av2 : Value), AbS V W0 (us ++ [jn A1 B1 L1]) Y av2 → Fr (fun j => j = V ∨ av.ownBlock = some j) X Y → KeepsFrom W0.heap.size X Y ∧ KpB (fun j => j = V + 1 ∨ j = bl) X Y ∧ ∃ av, AbS V W0 ((pre ++ [(⟨k, hk⟩ : Pl zs)]).map (fun x => jP zs x.1)) Y av := fun Y av2 h hf => by
      obtain ⟨f1, f2⟩ := hi.pays (B := V + 1) (bl := bl) (by omega) (by omega) (by omega) (by omega) (by omega) hf
      refine ⟨f1, f2, av2, ?_⟩
      have e1 : (pre ++ [(⟨k, hk⟩ : Pl zs)]).map (fun x => jP zs x.1) = us ++ [jn A1 B1 L1] := by rw [List.map_append, hus, List.map_singleton]; exact congrArg (fun t => us ++ [t]) HJ.out
      rw [e1]
      exact h
    unfold actA
    gi_wp2_with fail
    refine wpIn_round_held (S := fun u => Blk u Bx #[.int .i64 A1, .int .i64 B1, .bool L1] 121) (by kernel_rfl) (by kernel_rfl) (fun ⟨_, _, h⟩ => h) (bX.below (Below.refl _ _).drew bX.lt) (fun hs => ?_)
    have hid := hi.below (W' := X.drew) (Below.refl _ _).drew
    refine take_at (i := 1) (d := some 11) (v := .agg #[.int .i64 A1, .int .i64 B1, .bool L1]) rfl rfl (by kernel_rfl) (by kernel_rfl) (by kernel_rfl) (fun _ _ _ h => h) (Or.inl ⟨by rfl, ?y1⟩) hs ?g1
    case y1 => (intro z hSz; have e0 := hSz.cell 0; have e1 := hSz.cell 1; have e2 := hSz.cell 2; simp at e0 e1 e2; go_simp)
    try simp only [Act.put, List.setIfInBounds_toArray, List.set_cons_zero, List.set_cons_succ]
    refine wpAnyH_ready (rs := [0, 2]) (by kernel_rfl) (by simp) ?_
    refine AllReadyH.cons rfl (fun K' hK' => ?_) (AllReadyH.cons rfl (fun K' hK' => ?_) AllReadyH.nil)
    · have v0 := (hid).v.cell 0
      simp at v0
      go_simp
      refine hK'.out _ _ hs (fun _ => ?_)
      clear hK' K'
      try simp only [Act.put, List.setIfInBounds_toArray, List.set_cons_zero, List.set_cons_succ]
      refine wpAnyH_ready (rs := [2]) (by kernel_rfl) (by simp) ?_
      refine AllReadyH.cons rfl (fun K' hK' => ?_) AllReadyH.nil
      go_simp
      refine (joined_any A1 B1 L1 _ (TX.out.below (Below.refl _ _).drew (Nat.le_refl _)) hA (fun _ => hB)).mono ?_
      rintro _ w1 ⟨rfl, hc1⟩
      refine hK'.out _ _ (hs.below hc1 hs.lt) (fun hs1 => ?_)
      clear hK' K'
      try simp only [Act.put, List.setIfInBounds_toArray, List.set_cons_zero, List.set_cons_succ]
      refine wpAnyH_ready (rs := [3]) (by kernel_rfl) (by simp) ?_
      refine AllReadyH.cons rfl (fun K' hK' => ?_) AllReadyH.nil
      go_simp
      refine hK'.out _ _ (hs1.below ((Below.refl _ _).alloc (Nat.le_refl _) _) hs1.lt) (fun hs2 => ?_)
      clear hK' K'
      try simp only [Act.put, List.setIfInBounds_toArray, List.set_cons_zero, List.set_cons_succ]
      have hd2 := (hid.below hc1).below (W' := w1.alloc (.cells #[.int .i64 (jn A1 B1 L1)] 2)) ((Below.refl _ _).alloc (Nat.le_refl _) _)
      refine wpAnyH_ready (rs := [4]) (by kernel_rfl) (by simp) ?_
      refine AllReadyH.cons rfl (fun K' hK' => ?_) AllReadyH.nil
      refine step_app1 rfl _ _ 27 rfl W0.heap.size 2 i0 Tryd.underlying27 hi0 hz0 hz1 hz2 av us.length (us.map (.int .i64)) rfl hd2.arow w1.heap.size 1 (jn A1 B1 L1) rfl (by simp [go_sem]) (by omega) (by have := hd2.fr.size; omega) ?_
      intro g' c' w3 hown hgrow hnew
      obtain ⟨E1, E2, E3⟩ := hi.appendV (by omega) (((Below.refl _ X).drew.trans hc1).alloc hc1.size _) hown hgrow
      have nBx : av.ownBlock ≠ some Bx := fun e => (by obtain ⟨cs, hcs⟩ := own_cells hd2.arow e; rw [show _ = _ from hs2] at hcs; simp at hcs)
      refine hK'.out _ _ (hs2.fr (M := fun j => av.ownBlock = some j) (.of_grown hgrow (fun j e => e)) nBx) (fun hs3 => ?_)
      clear hK' K'
      try simp only [Act.put, List.setIfInBounds_toArray, List.set_cons_zero, List.set_cons_succ]
      have v3 := E3.cell 0
      have v4 := E3.frozen 0
      simp at v3
      refine wpAnyH_ready (rs := [5]) (by kernel_rfl) (by simp) ?_
      refine AllReadyH.cons rfl (fun K' hK' => ?_) AllReadyH.nil
      go_simp
      refine hK'.out _ _ (hs3.fr (M := fun j => j = V) (by refine Fr.setCell (Fr.refl _ _) _ _ ?_; rfl) (show Bx ≠ V by omega)) (fun hs4 => ?_)
      clear hK' K'
      try simp only [Act.put, List.setIfInBounds_toArray, List.set_cons_zero, List.set_cons_succ]
      refine wpAnyH_done (by kernel_rfl) ?_ _
      exact FIN _ _ E1 E2
    · go_simp
      refine (joined_any A1 B1 L1 _ (TX.out.below (Below.refl _ _).drew (Nat.le_refl _)) hA (fun _ => hB)).mono ?_
      rintro _ w1 ⟨rfl, hc1⟩
      refine hK'.out _ _ (hs.below hc1 hs.lt) (fun hs1 => ?_)
      clear hK' K'
      try simp only [Act.put, List.setIfInBounds_toArray, List.set_cons_zero, List.set_cons_succ]
      refine wpAnyH_ready (rs := [0, 3]) (by kernel_rfl) (by simp) ?_
      refine AllReadyH.cons rfl (fun K' hK' => ?_) (AllReadyH.cons rfl (fun K' hK' => ?_) AllReadyH.nil)
      · have v0 := (hid.below hc1).v.cell 0
        simp at v0
        go_simp
        refine hK'.out _ _ hs1 (fun _ => ?_)
        clear hK' K'
        try simp only [Act.put, List.setIfInBounds_toArray, List.set_cons_zero, List.set_cons_succ]
        refine wpAnyH_ready (rs := [3]) (by kernel_rfl) (by simp) ?_
        refine AllReadyH.cons rfl (fun K' hK' => ?_) AllReadyH.nil
        go_simp
        refine hK'.out _ _ (hs1.below ((Below.refl _ _).alloc (Nat.le_refl _) _) hs1.lt) (fun hs2 => ?_)
        clear hK' K'
        try simp only [Act.put, List.setIfInBounds_toArray, List.set_cons_zero, List.set_cons_succ]
        have hd2 := (hid.below hc1).below (W' := w1.alloc (.cells #[.int .i64 (jn A1 B1 L1)] 2)) ((Below.refl _ _).alloc (Nat.le_refl _) _)
        refine wpAnyH_ready (rs := [4]) (by kernel_rfl) (by simp) ?_
        refine AllReadyH.cons rfl (fun K' hK' => ?_) AllReadyH.nil
        refine step_app1 rfl _ _ 27 rfl W0.heap.size 2 i0 Tryd.underlying27 hi0 hz0 hz1 hz2 av us.length (us.map (.int .i64)) rfl hd2.arow w1.heap.size 1 (jn A1 B1 L1) rfl (by simp [go_sem]) (by omega) (by have := hd2.fr.size; omega) ?_
        intro g' c' w3 hown hgrow hnew
        obtain ⟨E1, E2, E3⟩ := hi.appendV (by omega) (((Below.refl _ X).drew.trans hc1).alloc hc1.size _) hown hgrow
        have nBx : av.ownBlock ≠ some Bx := fun e => (by obtain ⟨cs, hcs⟩ := own_cells hd2.arow e; rw [show _ = _ from hs2] at hcs; simp at hcs)
        refine hK'.out _ _ (hs2.fr (M := fun j => av.ownBlock = some j) (.of_grown hgrow (fun j e => e)) nBx) (fun hs3 => ?_)
        clear hK' K'
        try simp only [Act.put, List.setIfInBounds_toArray, List.set_cons_zero, List.set_cons_succ]
        have v3 := E3.cell 0
        have v4 := E3.frozen 0
        simp at v3
        refine wpAnyH_ready (rs := [5]) (by kernel_rfl) (by simp) ?_
        refine AllReadyH.cons rfl (fun K' hK' => ?_) AllReadyH.nil
        go_simp
        refine hK'.out _ _ (hs3.fr (M := fun j => j = V) (by refine Fr.setCell (Fr.refl _ _) _ _ ?_; rfl) (show Bx ≠ V by omega)) (fun hs4 => ?_)
        clear hK' K'
        try simp only [Act.put, List.setIfInBounds_toArray, List.set_cons_zero, List.set_cons_succ]
        refine wpAnyH_done (by kernel_rfl) ?_ _
        exact FIN _ _ E1 E2
      · go_simp
        refine hK'.out _ _ (hs1.below ((Below.refl _ _).alloc (Nat.le_refl _) _) hs1.lt) (fun hs2 => ?_)
        clear hK' K'
        try simp only [Act.put, List.setIfInBounds_toArray, List.set_cons_zero, List.set_cons_succ]
        refine wpAnyH_ready (rs := [0]) (by kernel_rfl) (by simp) ?_
        refine AllReadyH.cons rfl (fun K' hK' => ?_) AllReadyH.nil
        have v0 := ((hid.below hc1).below (W' := w1.alloc (.cells #[.int .i64 (jn A1 B1 L1)] 2)) ((Below.refl _ _).alloc (Nat.le_refl _) _)).v.cell 0
        simp at v0
        go_simp
        refine hK'.out _ _ hs2 (fun _ => ?_)
        clear hK' K'
        try simp only [Act.put, List.setIfInBounds_toArray, List.set_cons_zero, List.set_cons_succ]
        have hd2 := (hid.below hc1).below (W' := w1.alloc (.cells #[.int .i64 (jn A1 B1 L1)] 2)) ((Below.refl _ _).alloc (Nat.le_refl _) _)
        refine wpAnyH_ready (rs := [4]) (by kernel_rfl) (by simp) ?_
        refine AllReadyH.cons rfl (fun K' hK' => ?_) AllReadyH.nil
        refine step_app1 rfl _ _ 27 rfl W0.heap.size 2 i0 Tryd.underlying27 hi0 hz0 hz1 hz2 av us.length (us.map (.int .i64)) rfl hd2.arow w1.heap.size 1 (jn A1 B1 L1) rfl (by simp [go_sem]) (by omega) (by have := hd2.fr.size; omega) ?_
        intro g' c' w3 hown hgrow hnew
        obtain ⟨E1, E2, E3⟩ := hi.appendV (by omega) (((Below.refl _ X).drew.trans hc1).alloc hc1.size _) hown hgrow
        have nBx : av.ownBlock ≠ some Bx := fun e => (by obtain ⟨cs, hcs⟩ := own_cells hd2.arow e; rw [show _ = _ from hs2] at hcs; simp at hcs)
        refine hK'.out _ _ (hs2.fr (M := fun j => av.ownBlock = some j) (.of_grown hgrow (fun j e => e)) nBx) (fun hs3 => ?_)
        clear hK' K'
        try simp only [Act.put, List.setIfInBounds_toArray, List.set_cons_zero, List.set_cons_succ]
        have v3 := E3.cell 0
        have v4 := E3.frozen 0
        simp at v3
        refine wpAnyH_ready (rs := [5]) (by kernel_rfl) (by simp) ?_
        refine AllReadyH.cons rfl (fun K' hK' => ?_) AllReadyH.nil
        go_simp
        refine hK'.out _ _ (hs3.fr (M := fun j => j = V) (by refine Fr.setCell (Fr.refl _ _) _ _ ?_; rfl) (show Bx ≠ V by omega)) (fun hs4 => ?_)
        clear hK' K'
        try simp only [Act.put, List.setIfInBounds_toArray, List.set_cons_zero, List.set_cons_succ]
        refine wpAnyH_done (by kernel_rfl) ?_ _
        exact FIN _ _ E1 E2
  case done =>
    rintro D ys Y hD rfl ⟨av, hi⟩ hKD
    rw [upP_map] at hi
    have v0 := hi.v.cell 0
    simp at v0
    obtain ⟨pa, pc, rfl⟩ := own_row_shape hi.arow
    have AR : Hid (OwnI Y W0.heap.size (.slice pa (upL nS zs).length pc) (upL nS zs)) := hi.arow
    have FR : Hid (Fr (fun k => k = V) W0 Y) := hi.fr
    clear hi
    gi_wp2_with fail
    have hD0 : w.heap.size ≤ D := by have := WV.out; omega
    refine leaves_marks (base := w.heap.size) _ _ ⟨D, rfl, hD0, hKD, by simp, trivial⟩ ?_
    intro W' hf
    have hfm : Fr (fun k => k = D) Y W' := hf.mono (fun k ⟨d, hd, e⟩ => by simp at hd; subst hd; simpa using e.symm)
    have B1 : Below w.heap.size w W' := (BWF.out _ FR.out).trans (hfm.below (fun k e => by omega) (by have := FR.out.size; have := WV.out; omega))
    have AR2 : OwnI W' W0.heap.size (.slice pa (upL nS zs).length pc) (upL nS zs) := own_fr AR.out hfm (fun g e1 e2 => by
      obtain ⟨cs, hc⟩ := own_cells AR.out e1
      rw [e2, hKD] at hc
      cases hc)
    have BB : w.heap.size ≤ W0.heap.size := by have := WV.out; omega
    refine ⟨.slice pa (upL nS zs).length pc, by simp [results, Tryd.results88, go_sem], pa, pc, rfl, own_mono AR2 BB, B1⟩
  case stop =>
    rintro D c pre X _ _ h _
    exact h.elim

end Go.Proofs.YtjjddjohckcmbaaDoor

namespace Go.Proofs.YtjjddjohckcmbaaDoor
open Go.ChangeShapes Go.WideShapes Go.ChangeAt Go.RowKit
set_option linter.unusedVariables false
set_option linter.unusedSimpArgs false

open Go.Maps (Keyed int_keyed keyOf_int_mk)
theorem nil_ownB (w : World) (base : Nat) : OwnB w base none 0 [] := ⟨rfl, .inl ⟨rfl, rfl⟩⟩

set_option maxHeartbeats 1000000 in
theorem leafOf_any (k v : Int) (t : Bool) (w : World) (hT : Tab w) (hk : 0 ≤ k ∧ k ≤ 63) (hv : t = true → 0 ≤ v ∧ v ≤ 65520) :
    Calls Tryd.prog 91 #[.int .i64 k, .bool t, .int .i64 v] w fun r w' => ∃ a' c', r = .returned (.slice a' (lfB k t v).length c') ∧ OwnB w' w.heap.size a' c' (lfB k t v) ∧ Below w.heap.size w w' := by
  unfold lfB
  cases t with
  | true =>
    have hv2 := hv rfl
    clear hv
    simp only [if_true]
    go_enter Tryd.func91, Tryd.ntmps91
    go_wp2_with fail
    refine (implSlotBytes_any k v _ hT hk.1 hk.2 hv2.1 (by omega)).mono ?_
    rintro r u1 ⟨a', c', rfl, hown, hb1⟩
    go_wp2
    go_ret
    exact ⟨a', c', rfl, hown, hb1⟩
  | false =>
    go_enter Tryd.func91, Tryd.ntmps91
    go_wp2
    go_ret
    exact ⟨none, 0, rfl, nil_ownB _ _, Below.refl _ _⟩

set_option maxHeartbeats 2000000 in
theorem leaf_any (b n s : Nat) (D : DataW Unit) (l : List Sl) (key : Int) (w : World) (hT : Tab w) (hown : World.ownsMap w Tryd.prog 2 (plainElem (H := Unit) Tryd.prog 2) b n D) (hmd : MapD D (slFind l) s) (hok : ∀ s ∈ l, slOk s = true) (hk : 0 ≤ key ∧ key ≤ 63) :
    Calls Tryd.prog 86 #[.map (some b), .int .i64 key] w fun r w' => ∃ a' c', r = .returned (.slice a' (slLeaf l key).length c') ∧ OwnB w' w.heap.size a' c' (slLeaf l key) ∧ Below w.heap.size w w' := by
  have hkey := keyOf_int_mk Tryd.underlying2 (show (Lit.int .i64 key).wf = true from WalkArith.wf_i64 (by omega))
  have hh := hmd.has key
  have hvv := hmd.val key
  clear hmd
  cases e : slFind l key with
  | none =>
    have EL : slLeaf l key = [] := by unfold slLeaf; rw [e]
    rw [e] at hh
    simp only [Option.isSome_none] at hh
    rw [EL]
    have LO : Hid (∀ (v : Int) (u : World), Tab u → Calls Tryd.prog 91 #[.int .i64 key, .bool false, .int .i64 v] u fun r w' => ∃ a' c', r = .returned (.slice a' ([] : List Int).length c') ∧ OwnB w' u.heap.size a' c' [] ∧ Below u.heap.size u w') := fun v u hu => leafOf_any key v false u hu hk (by simp)
    clear hvv e EL hok
    go_enter Tryd.func86, Tryd.ntmps86
    go_wp2_with (first | (at_lookup; refine wpList_lookup_own_ok_int _ rfl _ _ 82 rfl 2 2 .i64 mapLaw Tryd.underlying82 Tryd.underlying2 (mapZero _) b n D rfl hown _ _ rfl hkey ?_; intro c' hat hwc; rw [hh]) | fail)
    refine (LO.out _ _ hT).mono ?_
    rintro r u1 ⟨a', c', rfl, O, hb1⟩
    go_wp2
    go_ret
    exact ⟨a', c', rfl, O, hb1⟩
  | some v =>
    have hvv := hvv v e
    have hv := (slOk_iff.1 (hok _ (slFind_mem e))).2
    have EL : slLeaf l key = slotL key v := by unfold slLeaf; rw [e]
    rw [e] at hh
    simp only [Option.isSome_some] at hh
    rw [EL]
    have LO : Hid (∀ (u : World), Tab u → Calls Tryd.prog 91 #[.int .i64 key, .bool true, .int .i64 v] u fun r w' => ∃ a' c', r = .returned (.slice a' (slotL key v).length c') ∧ OwnB w' u.heap.size a' c' (slotL key v) ∧ Below u.heap.size u w') := fun u hu => leafOf_any key v true u hu hk (fun _ => hv)
    clear e EL hok
    go_enter Tryd.func86, Tryd.ntmps86
    go_wp2_with (first | (at_lookup; refine wpList_lookup_own_ok_int _ rfl _ _ 82 rfl 2 2 .i64 mapLaw Tryd.underlying82 Tryd.underlying2 (mapZero _) b n D rfl hown _ _ rfl hkey ?_; intro c' hat hwc; rw [hh]; obtain rfl : v = c' := (by rw [hvv] at hat; simpa using hat)) | fail)
    refine (LO.out _ hT).mono ?_
    rintro r u1 ⟨a', c', rfl, O, hb1⟩
    go_wp2
    go_ret
    exact ⟨a', c', rfl, O, hb1⟩

theorem fldI7 (x y : Int) (w : World) : (Instr.field 34 (.agg #[.int .i64 x, .int .i64 y]) 1).run Tryd.prog w = .ok (.int .i64 y) w := by kernel_rfl
theorem lvR_snoc (l : List Sl) (k : Nat) : lvR l 0 (k + 1) = lvR l 0 k ++ [mpN l 0 (k : Int)] := by
  unfold lvR
  rw [List.range_succ, List.map_append]
  simp

set_option maxRecDepth 100000 in
set_option maxHeartbeats 4000000 in
theorem leafSums_any (b n s : Nat) (D : DataW Unit) (l : List Sl) (w : World) (hT : Tab w) (hown : World.ownsMap w Tryd.prog 2 (plainElem (H := Unit) Tryd.prog 2) b n D) (hmd : MapD D (slFind l) s) (hok : ∀ s ∈ l, slOk s = true) :
    Calls Tryd.prog 87 #[.map (some b)] w fun r w' => ∃ a' c', r = .returned (.slice a' 64 c') ∧ OwnI w' w.heap.size (.slice a' 64 c') (lvR l 0 64) ∧ Below w.heap.size w w' := by
  obtain ⟨i0, hi, hz0, hz1, hz2⟩ := info_parts info64
  have hb := hown.lt
  have F1 := fldI7
  have nil0 : World.ownsRow w w.heap.size 2 1 (.slice none 0 0) 0 ((lvR l 0 0).map (.int .i64)) := ⟨rfl, .inl ⟨rfl, rfl⟩⟩
  have LF : Hid (∀ (k : Nat) (u : World), k < 64 → Below w.heap.size w u → Calls Tryd.prog 86 #[.map (some b), .int .i64 k] u fun r w' => ∃ a' c', r = .returned (.slice a' (slLeaf l k).length c') ∧ OwnB w' u.heap.size a' c' (slLeaf l k) ∧ Below u.heap.size u w') := fun k u hk hu => leaf_any b n s D l k u (hT.below hu (Nat.le_refl _)) (owns_below hown hu hb) hmd hok ⟨by omega, by omega⟩
  have LW : Hid (∀ k : Nat, k < 64 → ∀ n ∈ slLeaf l k, (Lit.int .u8 n).wf = true) := fun k hk => slLeaf_wf hok ⟨by omega, by omega⟩
  have LL : Hid (∀ k : Nat, (slLeaf l k).length ≤ 4) := fun k => slLeaf_len l k
  have SN : Hid (∀ k : Nat, lvR l 0 (k + 1) = lvR l 0 k ++ [sumL (slLeaf l k)]) := fun k => lvR_snoc l k
  have EN : Hid (∀ k : Nat, (lvR l 0 k).length = k) := fun k => lvR_len l 0 k
  clear hown hmd hok hT
  go_enter Tryd.func87, Tryd.ntmps87
  go_wp2
  go_loopw [3, 5] (fun v i wr => ∃ (k : Nat) (a' : Option Addr) (c' : Nat), k ≤ 64 ∧ i = .int .i64 k ∧ v = .slice a' k c' ∧ World.ownsRow wr w.heap.size 2 1 (.slice a' k c') k ((lvR l 0 k).map (.int .i64)) ∧ Below w.heap.size w wr) (fun _ i _ => 64 - (intOf i).toNat)
  case atStart => exact ⟨0, none, 0, Nat.zero_le _, rfl, rfl, nil0, Below.refl _ _⟩
  case round =>
    clear nil0
    obtain ⟨k, va, vc, hk, rfl, rfl, hO, hbel⟩ := hrel
    have zr := hbel.size
    by_cases hlt : k < 64
    · have hlt' : (k : Int) < 64 := by omega
      have hsn := SN.out k
      have LFk : Hid (∀ (u : World), Below w.heap.size w u → Calls Tryd.prog 86 #[.map (some b), .int .i64 k] u fun r w' => ∃ a' c', r = .returned (.slice a' (slLeaf l k).length c') ∧ OwnB w' u.heap.size a' c' (slLeaf l k) ∧ Below u.heap.size u w') := fun u hu => LF.out k u hlt hu
      have LWk : Hid (∀ n ∈ slLeaf l k, (Lit.int .u8 n).wf = true) := LW.out k hlt
      have hl4 := LL.out (k : Nat)
      have HSN : Hid (lvR l 0 (k + 1) = lvR l 0 k ++ [sumL (slLeaf l k)]) := hsn
      clear hsn SN LF LW LL
      generalize slLeaf l (k : Int) = zs at *
      go_wp2_with fail
      refine (LFk.out _ hbel).mono ?_
      rintro r u1 ⟨a1, c1, rfl, O1, hb1⟩
      have e1 : sumC zs = 0 := by unfold sumC; rw [if_neg (by omega)]
      have e2 : sumV zs = sumL zs := by unfold sumV; rw [if_neg (by omega)]
      have B1 := hbel.trans (hb1.mono zr)
      have H1 := has_of_own O1 LWk.out
      clear O1
      go_wp2_with fail
      refine (implSumOf_any a1 c1 zs _ H1 (by omega)).mono ?_
      rw [e1, e2]
      rintro r u2 ⟨rfl, hb2⟩
      have B2 := B1.trans (hb2.mono B1.size)
      have O2 := own2_below hO (hb1.trans (hb2.mono hb1.size))
      have z2 := B2.size
      clear hO e1 e2 H1 hb1 hb2 B1 hbel
      generalize sumL zs = x at *
      go_wp2_with (at_builtin; refine wpList_append_own _ rfl _ _ 27 rfl w.heap.size 2 i0 (.int .i64 0) 1 8 Tryd.underlying27 hi hz0 hz1 hz2 rfl (by decide) _ (k) _ rfl (O2.alloc _) ⟨u2.heap.size, 0, none⟩ 1 1 [.int .i64 (x)] rfl rfl (one7 _ _ _) (by intro u hu; simp at hu; subst hu; rfl) (by unfold maxLen; omega) (by omega) (by simp; omega) ?_; intro v3 w3 hn3 hg3 h43)
      have B3 : Below w.heap.size w w3 := (B2.alloc z2 _).trans ((Below.refl _ _).grown hg3 (by simp; omega) (fun k hk => (O2.lt k hk).1))
      obtain ⟨a3, c3, rfl, _, _⟩ := own2_shape hn3
      have O3 : Hid (World.ownsRow w3 w.heap.size 2 1 (.slice a3 (k + 1) c3) (k + 1) ((lvR l 0 (k + 1)).map (.int .i64))) := by
        show World.ownsRow _ _ _ _ _ _ _
        rw [HSN.out]
        simpa using hn3
      clear hn3 hg3 h43 O2
      go_wp2
      go_roundw
      case rel => exact ⟨k + 1, a3, c3, by omega, by go_num, rfl, O3.out, B3⟩
      case measure => simp [intOf]; omega
    · obtain rfl : k = 64 := by omega
      have HE := EN.out 64
      have OH : Hid (OwnI wr w.heap.size (.slice va 64 vc) (lvR l 0 64)) := by
        show World.ownsRow _ _ _ _ _ _ _
        rw [HE]
        exact hO
      clear hO HE
      go_wp2
      go_ret
      exact ⟨va, vc, rfl, OH.out, hbel⟩

end Go.Proofs.YtjjddjohckcmbaaDoor

namespace Go.Proofs.YtjjddjohckcmbaaDoor
open Go.ChangeShapes Go.WideShapes Go.ChangeAt Go.RowKit
set_option linter.unusedVariables false
set_option linter.unusedSimpArgs false

/-- The state of the rounds: where the rise lies, and its path. -/
structure RiS (V : Nat) (key : Int) (lf : Value) (W0 : World) (us : List Int) (W : World) (pv : Value) : Prop where
  v : Blk W V #[.int .i64 key, lf, pv] 80
  prow : W.ownsRow W0.heap.size 2 1 pv us.length (us.map (.int .i64))
  fr : Fr (fun k => k = V) W0 W
theorem RiS.below {V : Nat} {key : Int} {lf : Value} {W0 W W' : World} {us : List Int} {pv : Value} (h : RiS V key lf W0 us W pv) (hb : Below W.heap.size W W') : RiS V key lf W0 us W' pv :=
  ⟨h.v.below hb h.v.lt, own_fr (M := fun _ => False) h.prow (.of_below hb (Nat.le_refl _)) (fun _ _ => id), h.fr.trans (M' := fun _ => False) (.of_below hb (Nat.le_refl _)) (fun _ _ e => e.elim)⟩
theorem RiS.appendP {V : Nat} {key : Int} {lf : Value} {W0 W W2 W3 : World} {pv pv' : Value} {x : Int} {us : List Int} (h : RiS V key lf W0 us W pv) (hV : V < W0.heap.size)
    (hb : Below W.heap.size W W2) (hown : W3.ownsRow W0.heap.size 2 1 pv' (us.length + 1) (us.map (.int .i64) ++ [.int .i64 x])) (hg : W2.grownBy W3 pv.ownBlock) :
    RiS V key lf W0 (us ++ [x]) (W3.setCell ⟨V, 2, none⟩ pv') pv' ∧ Fr (fun k => k = V ∨ pv.ownBlock = some k) W (W3.setCell ⟨V, 2, none⟩ pv') ∧ Blk W3 V #[.int .i64 key, lf, pv] 80 := by
  have h2 := h.below hb
  have f3 : Fr (fun k => pv.ownBlock = some k) W2 W3 := .of_grown hg (fun k e => e)
  have hav : ∀ k, pv.ownBlock = some k → W0.heap.size ≤ k := fun k e => (h2.prow.lt k e).1
  have v3 : Blk W3 V #[.int .i64 key, lf, pv] 80 := h2.v.fr f3 (fun e => by have := hav V e; omega)
  have fs : Fr (fun k => k = V) W3 (W3.setCell ⟨V, 2, none⟩ pv') := (Fr.refl _ _).setCell _ _ rfl
  refine ⟨⟨by have := v3.set 2 pv'; simpa using this, ?_, ?_⟩, ?_, v3⟩
  · have := own_fr hown fs (fun g e1 e2 => by have := (hown.lt g e1).1; omega)
    simpa using this
  · refine (h2.fr.trans f3 (fun i hi e => ?_)).trans fs (fun i hi e => e)
    have := hav i e; omega
  · exact ((Fr.of_below hb (Nat.le_refl _)).trans f3 (fun i _ e => .inr e)).trans fs (fun i _ e => .inl e)
theorem Has.fr {M : Nat → Prop} {w w' : World} {k : IntKind} {b off n : Nat} {zs : List Int} (h : Has w k (some ⟨b, off, none⟩) n zs) (hf : Fr M w w') (hn : ¬ M b) : Has w' k (some ⟨b, off, none⟩) n zs := by
  refine ⟨h.1, h.2.1, ?_⟩
  rcases h.2.2 with h0 | ⟨b', off', e, hlt, hc⟩
  · exact .inl h0
  · have e' := e
    simp at e'
    obtain ⟨rfl, rfl⟩ := e'
    exact .inr ⟨b, off, rfl, Nat.lt_of_lt_of_le hlt hf.size, fun i hi => (World.cell?_of_block (hf.block b hlt hn)).trans (hc i hi)⟩
theorem sib_bits {q : Int} (h0 : 0 ≤ q) (h1 : q ≤ 63) : bits .xor .i64 q 1 = sibN q := by
  obtain ⟨n, rfl⟩ := Int.eq_ofNat_of_zero_le h0
  have hn : n < 64 := by omega
  have : ∀ k : Fin 64, bits .xor .i64 ((k.val : Nat) : Int) 1 = sibN ((k.val : Nat) : Int) := by decide +kernel
  exact this ⟨n, hn⟩
theorem rise_facts {k : Int} {j : Nat} (hj : j < 6) (h0 : 0 ≤ k) (h1 : k ≤ 63) : k / 2 ^ j < ((2 ^ (6 - j) : Nat) : Int) ∧ (2 ^ (6 - j) : Nat) % 2 = 0 ∧ (2 ^ (6 - j) : Nat) = 2 * 2 ^ (6 - (j + 1)) ∧ 1 ≤ (2 ^ (6 - (j + 1)) : Nat) ∧ (2 ^ (6 - j) : Nat) ≤ 64 := by
  have : j = 0 ∨ j = 1 ∨ j = 2 ∨ j = 3 ∨ j = 4 ∨ j = 5 := by omega
  rcases this with rfl | rfl | rfl | rfl | rfl | rfl <;> simp <;> omega

theorem leafSums7 (b n s : Nat) (D : DataW Unit) (l : List Sl) (w : World) (hT : Tab w) (hown : World.ownsMap w Tryd.prog 2 (plainElem (H := Unit) Tryd.prog 2) b n D) (hmd : MapD D (slFind l) s) (hok : ∀ s ∈ l, slOk s = true) :
    Calls Tryd.prog 87 #[.map (some b)] w fun r w' => ∃ a' c', r = .returned (.slice a' 64 c') ∧ World.ownsRow w' w.heap.size 2 1 (.slice a' 64 c') 64 ((lvR l 0 64).map (.int .i64)) ∧ Below w.heap.size w w' := by
  refine (leafSums_any b n s D l w hT hown hmd hok).mono ?_
  rintro r w' ⟨a', c', rfl, O, hb⟩
  refine ⟨a', c', rfl, ?_, hb⟩
  have h : World.ownsRow w' w.heap.size 2 1 (.slice a' 64 c') (lvR l 0 64).length ((lvR l 0 64).map (.int .i64)) := O
  rw [lvR_len] at h
  exact h
theorem above7 (l : List Sl) (j n : Nat) (lb lo lc : Nat) (u : World) (hT : Tab u) (h : Has u .i64 (some ⟨lb, lo, none⟩) (2 * n) (lvR l j (2 * n))) (h1 : 1 ≤ n) (h2 : n ≤ 400) :
    Calls Tryd.prog 88 #[.slice (some ⟨lb, lo, none⟩) (2 * n) lc] u fun r w' => ∃ g c', r = .returned (.slice (some ⟨g, 0, none⟩) n c') ∧ u.heap.size ≤ g ∧ Has w' .i64 (some ⟨g, 0, none⟩) n (lvR l (j + 1) n) ∧ Below u.heap.size u w' := by
  have hl := lvR_len l j (2 * n)
  have hl2 := lvR_len l (j + 1) n
  have := levelAbove_any (some ⟨lb, lo, none⟩) lc (lvR l j (2 * n)) u hT (by rw [hl]; exact h) (by omega) (by omega) (lvR_all l j _)
  rw [lvR_up, hl2, hl] at this
  refine this.mono ?_
  rintro r w' ⟨pa, pc, rfl, O, hb⟩
  have O' : World.ownsRow w' u.heap.size 2 1 (.slice pa n pc) n ((lvR l (j + 1) n).map (.int .i64)) := by
    have h : World.ownsRow w' u.heap.size 2 1 (.slice pa n pc) (lvR l (j + 1) n).length ((lvR l (j + 1) n).map (.int .i64)) := O
    rw [hl2] at h
    exact h
  have H := has_of_own O' (allS_wf (lvR_all l (j + 1) n))
  rw [hl2] at H
  rcases O'.2 with ⟨e1, h0⟩ | ⟨g, cap, cur, e1, hg, _⟩
  · omega
  · simp at e1
    obtain ⟨rfl, rfl⟩ := e1
    exact ⟨g, pc, rfl, hg, H, hb⟩

set_option maxRecDepth 100000 in
set_option maxHeartbeats 8000000 in
theorem riseOf_any (b n s : Nat) (D : DataW Unit) (l : List Sl) (key : Int) (w : World) (hT : Tab w) (hown : World.ownsMap w Tryd.prog 2 (plainElem (H := Unit) Tryd.prog 2) b n D) (hmd : MapD D (slFind l) s) (hok : ∀ s ∈ l, slOk s = true) (hk : 0 ≤ key ∧ key ≤ 63) :
    Calls Tryd.prog 52 #[.map (some b), .int .i64 key] w fun r w' => ∃ a1 c1 a2 c2, r = .returned (.agg #[.int .i64 key, .slice a1 (slLeaf l key).length c1, .slice a2 (mpP l key).length c2]) ∧ OwnB w' w.heap.size a1 c1 (slLeaf l key) ∧ OwnI w' w.heap.size (.slice a2 (mpP l key).length c2) (mpP l key) ∧ Below w.heap.size w w' := by
  obtain ⟨i0, hi0, hz0, hz1, hz2⟩ := info_parts info64
  have hb := hown.lt
  obtain ⟨E, hE⟩ : ∃ E, E = w.alloc (.cells #[.int .i64 0, .slice none 0 0, .slice none 0 0] 80) := ⟨_, rfl⟩
  have EW : Below w.heap.size w E := by rw [hE]; exact (Below.refl _ _).alloc (Nat.le_refl _) _
  have zE : E.heap.size = w.heap.size + 1 := by rw [hE]; simp
  have RE : Blk E w.heap.size #[.int .i64 0, .slice none 0 0, .slice none 0 0] 80 := by rw [hE]; exact Blk.new _ _ _
  have LF : Hid (∀ u : World, Below w.heap.size w u → Calls Tryd.prog 86 #[.map (some b), .int .i64 key] u fun r w' => ∃ a' c', r = .returned (.slice a' (slLeaf l key).length c') ∧ OwnB w' u.heap.size a' c' (slLeaf l key) ∧ Below u.heap.size u w') := fun u hu => leaf_any b n s D l key u (hT.below hu (Nat.le_refl _)) (owns_below hown hu hb) hmd hok hk
  have LS : Hid (∀ u : World, Below w.heap.size w u → Calls Tryd.prog 87 #[.map (some b)] u fun r w' => ∃ a' c', r = .returned (.slice a' 64 c') ∧ World.ownsRow w' u.heap.size 2 1 (.slice a' 64 c') 64 ((lvR l 0 64).map (.int .i64)) ∧ Below u.heap.size u w') := fun u hu => leafSums7 b n s D l u (hT.below hu (Nat.le_refl _)) (owns_below hown hu hb) hmd hok
  have TH : Hid (∀ u : World, Below w.heap.size w u → Tab u) := fun u hu => hT.below hu (Nat.le_refl _)
  clear hown hmd hok hT
  go_enter Tryd.func52, Tryd.ntmps52
  go_wp2_with fail
  simp only [← hE]
  clear hE
  refine (LF.out _ EW).mono ?_
  rintro r u1 ⟨a1, c1, rfl, O1, hb1⟩
  have B1 := EW.trans (hb1.mono (by omega))
  obtain ⟨V, hV⟩ : ∃ V, V = u1.heap.size := ⟨_, rfl⟩
  obtain ⟨X1, hX1⟩ : ∃ X1, X1 = u1.alloc (.cells #[.int .i64 key, .slice a1 (slLeaf l key).length c1, .slice none 0 0] 80) := ⟨_, rfl⟩
  have b1x : Below u1.heap.size u1 X1 := by rw [hX1]; exact (Below.refl _ _).alloc (Nat.le_refl _) _
  have VX : Blk X1 V #[.int .i64 key, .slice a1 (slLeaf l key).length c1, .slice none 0 0] 80 := by rw [hX1, hV]; exact Blk.new _ _ _
  have zX : X1.heap.size = V + 1 := by rw [hX1, hV]; simp
  have z1 := hb1.size
  go_wp2_with fail
  simp only [← hX1, ← hV]
  clear hX1
  refine (LS.out _ (B1.trans (b1x.mono (by have := B1.size; omega)))).mono ?_
  rintro r W0 ⟨a2, c2, rfl, O2, hb2⟩
  have z2 := hb2.size
  have B2 : Below w.heap.size w W0 := (B1.trans (b1x.mono (by have := B1.size; omega))).trans (hb2.mono (by omega))
  have hVW : V < W0.heap.size := by omega
  have LR : Hid (OwnB W0 E.heap.size a1 c1 (slLeaf l key)) := own_below (own_below O1 b1x) hb2
  have RB : Hid (Blk W0 w.heap.size #[.int .i64 0, .slice none 0 0, .slice none 0 0] 80) := ((RE.below hb1 (by omega)).below b1x (by omega)).below hb2 (by omega)
  have R0 : RiS V key (.slice a1 (slLeaf l key).length c1) W0 [] W0 (.slice none 0 0) := ⟨VX.below hb2 (by omega), World.ownsRow_nil _ _ _ _, Fr.refl _ _⟩
  obtain ⟨lb0, lo0, hla, hlb0⟩ : ∃ lb lo, a2 = some ⟨lb, lo, none⟩ ∧ X1.heap.size ≤ lb := by
    rcases O2.2 with ⟨e1, h0⟩ | ⟨g, cap, cur, e1, hg, _⟩
    · simp [lvR_len] at h0
    · simp at e1
      exact ⟨g, 0, e1.1, hg⟩
  subst hla
  have HL0 : Has W0 .i64 (some ⟨lb0, lo0, none⟩) 64 (lvR l 0 64) := by
    have hlen := lvR_len l 0 64
    have h : World.ownsRow W0 X1.heap.size 2 1 (.slice (some ⟨lb0, lo0, none⟩) 64 c2) 64 ((lvR l 0 64).map (.int .i64)) := O2
    have := has_of_own h (allS_wf (lvR_all l 0 64))
    rw [hlen] at this
    exact this
  have hVE : E.heap.size ≤ V := by omega
  have BW : Hid (∀ Y : World, Fr (fun k => k = V) W0 Y → Below w.heap.size w Y) := fun Y hf => B2.trans (hf.below (B := w.heap.size) (by rintro j e; omega) (by omega))
  have LRY : Hid (∀ Y : World, Fr (fun k => k = V) W0 Y → OwnB Y E.heap.size a1 c1 (slLeaf l key)) := fun Y hf => own_fr LR.out hf (fun g e1 e2 => by
    obtain ⟨cs, hc⟩ := own_cells LR.out e1
    rw [show g = V from e2, show W0.heap[V]? = _ from R0.v] at hc
    simp at hc)
  have RBY : Hid (∀ Y : World, Fr (fun k => k = V) W0 Y → Blk Y w.heap.size #[.int .i64 0, .slice none 0 0, .slice none 0 0] 80) := fun Y hf => RB.out.fr hf (by omega)
  have SN : Hid (∀ j, j < 6 → (mpP l key).take (j + 1) = (mpP l key).take j ++ [mpS l key j]) := fun j hj => mpP_snoc l key hj
  have EN : Hid ((mpP l key).take 6 = mpP l key) := by show _ = _; rw [List.take_of_length_le]; rw [mpP_len]; omega
  have PL : Hid (∀ j, j ≤ 6 → ((mpP l key).take j).length = j) := fun j hj => by rw [List.length_take, mpP_len]; omega
  have LU : Hid (∀ i n, upL nS (lvR l i (2 * n)) = lvR l (i + 1) n) := fun i n => lvR_up l i n
  have LA : Hid (∀ i n, allS (lvR l i n) = true) := fun i n => lvR_all l i n
  have LN : Hid (∀ i n, (lvR l i n).length = n) := fun i n => lvR_len l i n
  have LB : Hid (∀ (i n : Nat), 0 ≤ key / 2 ^ i → key / 2 ^ i < n → n % 2 = 0 → 0 ≤ sibN (key / 2 ^ i) ∧ sibN (key / 2 ^ i) < n ∧ (lvR l i n)[(sibN (key / 2 ^ i)).toNat]? = some (mpS l key i)) := fun i n h0 h1 hn => lvR_sib l key i n h0 h1 hn
  have hsz : w.heap.size < E.heap.size := by omega
  have hlV : lb0 ≠ V := by omega
  generalize hlz : slLeaf l key = lz at *
  generalize hpp : mpP l key = P at *
  have HLZ : Hid (slLeaf l key = lz) := hlz
  have HPP : Hid (mpP l key = P) := hpp
  clear hlz hpp
  subst hV
  generalize u1.heap.size = V at *
  clear LF LS RE EW VX O1 O2 hb1 hb2 b1x B1 LR RB hlb0 zX z1 z2 zE
  go_wp2_with fail
  go_loopw [6, 15] (fun v i wr => ∃ (j : Nat) (pv : Value) (lb lo lc : Nat), j ≤ 6 ∧ i = .int .i64 j ∧ v = .slice (some ⟨lb, lo, none⟩) (2 ^ (6 - j)) lc ∧ RiS V key (.slice a1 lz.length c1) W0 (P.take j) wr pv ∧ Has wr .i64 (some ⟨lb, lo, none⟩) (2 ^ (6 - j)) (lvR l j (2 ^ (6 - j))) ∧ lb ≠ V ∧ pv.ownBlock ≠ some lb) (fun _ i _ => 6 - (intOf i).toNat)
  case atStart => exact ⟨0, .slice none 0 0, lb0, lo0, c2, Nat.zero_le _, rfl, rfl, R0, HL0, hlV, by simp [Value.ownBlock]⟩
  case round =>
    clear R0 HL0 hlV
    obtain ⟨j, pv, lb, loff, lc, hj, rfl, rfl, hi, hlv, hlV, hlp⟩ := hrel
    have hps := PL.out j hj
    by_cases hlt : j < 6
    · have hlt' : (j : Int) < 6 := by omega
      obtain ⟨q1, q2, q3, q4, q5⟩ := rise_facts hlt hk.1 hk.2
      obtain ⟨_, ⟨f3, f4⟩, _, _, _, _⟩ := path_facts hlt hk.1 hk.2
      obtain ⟨g1, g2, g3⟩ := LB.out j _ f3 q1 q2
      have hx := sib_bits f3 f4
      have SNj := SN.out j hlt
      obtain ⟨N1, hN1⟩ : ∃ N1 : Nat, (2 ^ (6 - (j + 1)) : Nat) = N1 := ⟨_, rfl⟩
      have HN1 : Hid ((2 ^ (6 - (j + 1)) : Nat) = N1) := hN1
      rw [hN1] at q3 q4
      rw [q3] at q1 q5 g2 g3 hlv ⊢
      obtain ⟨Q, hQ⟩ : ∃ Q, key / 2 ^ j = Q := ⟨_, rfl⟩
      rw [hQ] at f3 f4 q1 g1 g2 g3 hx
      obtain ⟨m, hm⟩ := Int.eq_ofNat_of_zero_le g1
      rw [hm] at hx g2 g3
      have hmn : m < 2 * N1 := by omega
      have hm' : (m : Int) < 2 * (N1 : Int) := by omega
      generalize mpS l key j = y at *
      obtain ⟨X, hX⟩ : ∃ X, X = wr := ⟨_, rfl⟩
      subst hX
      have hltb : lb < X.heap.size := by
        rcases hlv.2.2 with h0 | ⟨b', o', e, h1, _⟩
        · omega
        · simp at e; omega
      have hcell : X.cell? ⟨lb, loff + m, none⟩ = some (.int .i64 y) := by
        rcases hlv.2.2 with h0 | ⟨b', o', e, _, hc⟩
        · omega
        · have e' := e
          simp at e'
          obtain ⟨rfl, rfl⟩ := e'
          rw [hc m hmn, List.getD_eq_getElem?_getD]
          have : (lvR l j (2 * N1))[m]? = some y := by simpa using g3
          rw [this]; rfl
      have hS0 : X.drew.cell? ⟨lb, loff + m, none⟩ = some (.int .i64 y) := hcell
      have hid : RiS V key (.slice a1 lz.length c1) W0 (P.take j) X.drew pv := hi.below (Below.refl _ _).drew
      have hd2 : RiS V key (.slice a1 lz.length c1) W0 (P.take j) (X.alloc (.cells #[.int .i64 y] 2)).drew pv := hi.below (((Below.refl _ _).alloc (Nat.le_refl _) _).drew)
      have hd2s : W0.heap.size ≤ (X.alloc (.cells #[.int .i64 y] 2)).drew.heap.size := hd2.fr.size
      have hltc : lb < (X.alloc (.cells #[.int .i64 y] 2)).drew.heap.size := by show lb < (X.alloc (.cells #[.int .i64 y] 2)).heap.size; simp; omega
      have hd2p : World.ownsRow (X.alloc (.cells #[.int .i64 y] 2)).drew W0.heap.size 2 1 pv j ((P.take j).map (.int .i64)) := by
        have := hd2.prow
        rw [hps] at this
        exact this
      have hs2 : (X.alloc (.cells #[.int .i64 y] 2)).drew.cell? ⟨lb, loff + m, none⟩ = some (.int .i64 y) := (((Below.refl X.heap.size X).alloc (Nat.le_refl _) (.cells #[.int .i64 y] 2)).cell (p := ⟨lb, loff + m, none⟩) hltb).trans hcell
      have HSN : Hid (P.take (j + 1) = P.take j ++ [y]) := SNj
      have HPS : Hid ((P.take j).length = j) := hps
      have HN3 : Hid ((2 ^ (6 - j) : Nat) = 2 * N1) := q3
      clear SN EN PL LU LA LN LB SNj g3 hcell hN1 q3
      generalize hpsd : P.take j = ps at *
      clear hpsd
      go_wp2_with fail
      refine wp_region_noPanic ?_
      refine wp_region_held_drew (S := fun u => u.cell? ⟨lb, loff + m, none⟩ = some (.int .i64 y)) (by kernel_rfl) hS0 (fun hHeld => ?_)
      refine take_at (i := 0) (d := some 18) (v := ?mv0) rfl rfl (by kernel_rfl) (by kernel_rfl) (by kernel_rfl) (fun _ _ _ h => h) (Or.inl ⟨by rfl, ?my0⟩) (by assumption) ?mg0
      case my0 => (intro z hSz; (try dsimp only at hSz); go_simp; (try with_reducible rfl))
      try simp only [Act.put, List.setIfInBounds_toArray, List.set_cons_zero, List.set_cons_succ]
      refine take_at (i := 2) (d := some 20) (v := ?mv2) rfl rfl (by kernel_rfl) (by kernel_rfl) (by kernel_rfl) (fun _ _ _ h => h) (Or.inl ⟨by rfl, ?my2⟩) (by assumption) ?mg2
      case my2 => (intro z hSz; (try dsimp only at hSz); go_simp; (try with_reducible rfl))
      try simp only [Act.put, List.setIfInBounds_toArray, List.set_cons_zero, List.set_cons_succ]
      refine take_at (i := 3) (d := some 21) (v := ?mv3) rfl rfl (by kernel_rfl) (by kernel_rfl) (by kernel_rfl) (fun _ _ _ h => h) (Or.inl ⟨by rfl, ?my3⟩) (by assumption) ?mg3
      case my3 => (intro z hSz; (try dsimp only at hSz); go_simp; (try with_reducible rfl))
      try simp only [Act.put, List.setIfInBounds_toArray, List.set_cons_zero, List.set_cons_succ]
      refine take_at (i := 4) (d := some 22) (v := ?mv4) rfl rfl (by kernel_rfl) (by kernel_rfl) (by kernel_rfl) (fun _ _ _ h => h) (Or.inl ⟨by rfl, ?my4⟩) (by assumption) ?mg4
      case my4 => (intro z hSz; (try dsimp only at hSz); go_simp; (try with_reducible rfl))
      try simp only [Act.put, List.setIfInBounds_toArray, List.set_cons_zero, List.set_cons_succ]
      refine take_at (i := 5) (d := some 23) (v := ?mv5) rfl rfl (by kernel_rfl) (by kernel_rfl) (by kernel_rfl) (fun _ _ _ h => h) (Or.inl ⟨by rfl, ?my5⟩) (by assumption) ?mg5
      case my5 => (intro z hSz; (try dsimp only at hSz); go_simp; (try with_reducible rfl))
      try simp only [Act.put, List.setIfInBounds_toArray, List.set_cons_zero, List.set_cons_succ]
      refine take_at (i := 6) (d := some 24) (v := ?mv6) rfl rfl (by kernel_rfl) (by kernel_rfl) (by kernel_rfl) (fun _ _ _ h => h) (Or.inl ⟨by rfl, ?my6⟩) (by assumption) ?mg6
      case my6 => (intro z hSz; (try dsimp only at hSz); go_simp; (try with_reducible rfl))
      try simp only [Act.put, List.setIfInBounds_toArray, List.set_cons_zero, List.set_cons_succ]
      refine take_at (i := 7) (d := some 25) (v := ?mv7) rfl rfl (by kernel_rfl) (by kernel_rfl) (by kernel_rfl) (fun _ _ _ h => h) (Or.inl ⟨by rfl, ?my7⟩) (by assumption) ?mg7
      case my7 => (intro z hSz; (try dsimp only at hSz); go_simp; (try with_reducible rfl))
      try simp only [Act.put, List.setIfInBounds_toArray, List.set_cons_zero, List.set_cons_succ]
      refine take_at (i := 8) (d := some 26) (v := ?mv8) rfl rfl (by kernel_rfl) (by kernel_rfl) (by kernel_rfl) (fun _ _ _ h => h) (Or.inl ⟨by rfl, ?my8⟩) (by assumption) ?mg8
      case my8 => (intro z hSz; (try dsimp only at hSz); go_simp; (try with_reducible rfl))
      try simp only [Act.put, List.setIfInBounds_toArray, List.set_cons_zero, List.set_cons_succ]
      refine wpAnyH_ready (rs := [1, 9]) (by kernel_rfl) (by simp) ?_
      refine AllReadyH.cons rfl (fun K' hK' => ?_) (AllReadyH.cons rfl (fun K' hK' => ?_) AllReadyH.nil)
      · have v0 := (hid).v.cell 2
        simp at v0
        go_simp
        refine hK'.out _ _ (by assumption) (fun _ => ?_)
        clear hK' K'
        try simp only [Act.put, List.setIfInBounds_toArray, List.set_cons_zero, List.set_cons_succ]
        refine wpAnyH_ready (rs := [9]) (by kernel_rfl) (by simp) ?_
        refine AllReadyH.cons rfl (fun K' hK' => ?_) AllReadyH.nil
        go_simp
        refine hK'.out _ _ hs2 (fun _ => ?_)
        clear hK' K'
        try simp only [Act.put, List.setIfInBounds_toArray, List.set_cons_zero, List.set_cons_succ]
        refine wpAnyH_ready (rs := [10]) (by kernel_rfl) (by simp) ?_
        refine AllReadyH.cons rfl (fun K' hK' => ?_) AllReadyH.nil
        refine step_app1 rfl _ _ 27 rfl W0.heap.size 2 i0 Tryd.underlying27 hi0 hz0 hz1 hz2 pv j (ps.map (.int .i64)) rfl hd2p X.heap.size 1 y rfl (by simp [go_sem]) (by omega) hd2s ?_
        intro g' c' w3 hown hgrow hnew
        obtain ⟨E1, E2, E3⟩ := hi.appendP hVW (((Below.refl _ X).alloc (Nat.le_refl _) _).drew) (by rw [HPS.out]; exact hown) hgrow
        have hs3 : w3.cell? ⟨lb, loff + m, none⟩ = some (.int .i64 y) := ((Fr.of_grown (M := fun k => pv.ownBlock = some k) hgrow (fun k e => e)).block lb hltc (fun e => hlp e) |> fun e => World.cell?_of_block e).trans hs2
        refine hK'.out _ _ hs3 (fun _ => ?_)
        clear hK' K'
        try simp only [Act.put, List.setIfInBounds_toArray, List.set_cons_zero, List.set_cons_succ]
        have v3 := E3.cell 2
        have v4 := E3.frozen 2
        simp at v3
        refine wpAnyH_ready (rs := [11]) (by kernel_rfl) (by simp) ?_
        refine AllReadyH.cons rfl (fun K' hK' => ?_) AllReadyH.nil
        go_simp
        refine hK'.out _ _ hs3 (fun _ => ?_)
        clear hK' K'
        try simp only [Act.put, List.setIfInBounds_toArray, List.set_cons_zero, List.set_cons_succ]
        refine wpAnyH_ready (rs := [12]) (by kernel_rfl) (by simp) ?_
        refine AllReadyH.cons rfl (fun K' hK' => ?_) AllReadyH.nil
        go_simp
        refine hK'.out _ _ ((World.cell?_setCell_other (h := by first | (simp; omega) | simp) ..).trans hs3) (fun _ => ?_)
        clear hK' K'
        try simp only [Act.put, List.setIfInBounds_toArray, List.set_cons_zero, List.set_cons_succ]
        refine wpAnyH_done (by kernel_rfl) (NoPanic.normal ?_) _
        have LV3 : Has (w3.setCell ⟨V, 2, none⟩ (.slice (some ⟨g', 0, none⟩) (j + 1) c')) .i64 (some ⟨lb, loff, none⟩) (2 * N1) (lvR l j (2 * N1)) := hlv.fr E2 (by rintro (e | e); exact hlV e; exact hlp e)
        have T3 := TH.out _ (BW.out _ E1.fr)
        have hg3 := (E1.prow.lt g' rfl).2
        clear hi hid hd2 hd2p hd2s hs2 hs3 v0 v3 v4 hown hgrow hnew hlv hS0
        go_wp2_with fail
        refine (above7 l j N1 lb loff lc _ T3 LV3 q4 (by omega)).mono ?_
        rintro r u5 ⟨g5, c5, rfl, hg5, H5, hb5⟩
        have E5 : RiS V key (.slice a1 lz.length c1) W0 (P.take (j + 1)) u5 (.slice (some ⟨g', 0, none⟩) (j + 1) c') := by
          rw [HSN.out]
          exact E1.below hb5
        have EH : Hid (RiS V key (.slice a1 lz.length c1) W0 (P.take (j + 1)) u5 (.slice (some ⟨g', 0, none⟩) (j + 1) c')) := E5
        have HH5 : Hid (Has u5 .i64 (some ⟨g5, 0, none⟩) N1 (lvR l (j + 1) N1)) := H5
        have hV5 : V < g5 := by have := E1.v.lt; omega
        clear E1 E2 E3 E5 H5 LV3 T3
        go_wp2
        go_roundw
        case rel => exact ⟨j + 1, .slice (some ⟨g', 0, none⟩) (j + 1) c', g5, 0, c5, by omega, by go_num, by rw [HN1.out], EH.out, by rw [HN1.out]; exact HH5.out, by omega, by simp [Value.ownBlock]; omega⟩
        case measure => simp [intOf]; omega
      · go_simp
        refine hK'.out _ _ hs2 (fun _ => ?_)
        clear hK' K'
        try simp only [Act.put, List.setIfInBounds_toArray, List.set_cons_zero, List.set_cons_succ]
        refine wpAnyH_ready (rs := [1]) (by kernel_rfl) (by simp) ?_
        refine AllReadyH.cons rfl (fun K' hK' => ?_) AllReadyH.nil
        have v0 := (hd2).v.cell 2
        simp at v0
        go_simp
        refine hK'.out _ _ hs2 (fun _ => ?_)
        clear hK' K'
        try simp only [Act.put, List.setIfInBounds_toArray, List.set_cons_zero, List.set_cons_succ]
        refine wpAnyH_ready (rs := [10]) (by kernel_rfl) (by simp) ?_
        refine AllReadyH.cons rfl (fun K' hK' => ?_) AllReadyH.nil
        refine step_app1 rfl _ _ 27 rfl W0.heap.size 2 i0 Tryd.underlying27 hi0 hz0 hz1 hz2 pv j (ps.map (.int .i64)) rfl hd2p X.heap.size 1 y rfl (by simp [go_sem]) (by omega) hd2s ?_
        intro g' c' w3 hown hgrow hnew
        obtain ⟨E1, E2, E3⟩ := hi.appendP hVW (((Below.refl _ X).alloc (Nat.le_refl _) _).drew) (by rw [HPS.out]; exact hown) hgrow
        have hs3 : w3.cell? ⟨lb, loff + m, none⟩ = some (.int .i64 y) := ((Fr.of_grown (M := fun k => pv.ownBlock = some k) hgrow (fun k e => e)).block lb hltc (fun e => hlp e) |> fun e => World.cell?_of_block e).trans hs2
        refine hK'.out _ _ hs3 (fun _ => ?_)
        clear hK' K'
        try simp only [Act.put, List.setIfInBounds_toArray, List.set_cons_zero, List.set_cons_succ]
        have v3 := E3.cell 2
        have v4 := E3.frozen 2
        simp at v3
        refine wpAnyH_ready (rs := [11]) (by kernel_rfl) (by simp) ?_
        refine AllReadyH.cons rfl (fun K' hK' => ?_) AllReadyH.nil
        go_simp
        refine hK'.out _ _ hs3 (fun _ => ?_)
        clear hK' K'
        try simp only [Act.put, List.setIfInBounds_toArray, List.set_cons_zero, List.set_cons_succ]
        refine wpAnyH_ready (rs := [12]) (by kernel_rfl) (by simp) ?_
        refine AllReadyH.cons rfl (fun K' hK' => ?_) AllReadyH.nil
        go_simp
        refine hK'.out _ _ ((World.cell?_setCell_other (h := by first | (simp; omega) | simp) ..).trans hs3) (fun _ => ?_)
        clear hK' K'
        try simp only [Act.put, List.setIfInBounds_toArray, List.set_cons_zero, List.set_cons_succ]
        refine wpAnyH_done (by kernel_rfl) (NoPanic.normal ?_) _
        have LV3 : Has (w3.setCell ⟨V, 2, none⟩ (.slice (some ⟨g', 0, none⟩) (j + 1) c')) .i64 (some ⟨lb, loff, none⟩) (2 * N1) (lvR l j (2 * N1)) := hlv.fr E2 (by rintro (e | e); exact hlV e; exact hlp e)
        have T3 := TH.out _ (BW.out _ E1.fr)
        have hg3 := (E1.prow.lt g' rfl).2
        clear hi hid hd2 hd2p hd2s hs2 hs3 v0 v3 v4 hown hgrow hnew hlv hS0
        go_wp2_with fail
        refine (above7 l j N1 lb loff lc _ T3 LV3 q4 (by omega)).mono ?_
        rintro r u5 ⟨g5, c5, rfl, hg5, H5, hb5⟩
        have E5 : RiS V key (.slice a1 lz.length c1) W0 (P.take (j + 1)) u5 (.slice (some ⟨g', 0, none⟩) (j + 1) c') := by
          rw [HSN.out]
          exact E1.below hb5
        have EH : Hid (RiS V key (.slice a1 lz.length c1) W0 (P.take (j + 1)) u5 (.slice (some ⟨g', 0, none⟩) (j + 1) c')) := E5
        have HH5 : Hid (Has u5 .i64 (some ⟨g5, 0, none⟩) N1 (lvR l (j + 1) N1)) := H5
        have hV5 : V < g5 := by have := E1.v.lt; omega
        clear E1 E2 E3 E5 H5 LV3 T3
        go_wp2
        go_roundw
        case rel => exact ⟨j + 1, .slice (some ⟨g', 0, none⟩) (j + 1) c', g5, 0, c5, by omega, by go_num, by rw [HN1.out], EH.out, by rw [HN1.out]; exact HH5.out, by omega, by simp [Value.ownBlock]; omega⟩
        case measure => simp [intOf]; omega
    · obtain rfl : j = 6 := by omega
      have hE := EN.out
      have v0 := hi.v.cell 0
      have v1 := hi.v.cell 1
      have v2 := hi.v.cell 2
      simp at v0 v1 v2
      have rb := RBY.out _ hi.fr
      have r0 := rb.cell 0
      have r1 := rb.cell 1
      have r2 := rb.cell 2
      have z0 := rb.frozen 0
      have z1 := rb.frozen 1
      have z2 := rb.frozen 2
      simp at r0 r1 r2
      have B6 := BW.out _ hi.fr
      have L6 : Hid (OwnB wr E.heap.size a1 c1 lz) := LRY.out _ hi.fr
      have hpr := hi.prow
      rw [hE] at hpr
      obtain ⟨pa, pc, rfl⟩ := own_row_shape hpr
      have P6 : Hid (OwnI wr W0.heap.size (.slice pa P.length pc) P) := hpr
      have hEW : E.heap.size ≤ W0.heap.size := by omega
      clear hpr hi hlv EN SN PL hps hE rb
      go_wp2
      refine bodyPost_ret (v := .agg #[.int .i64 key, .slice a1 lz.length c1, .slice pa P.length pc]) (by simp [results, Tryd.results52, go_sem, r0, r1, r2]) rfl ⟨a1, c1, pa, pc, by rw [HLZ.out, HPP.out], ?_, ?_, ?_⟩
      · rw [HLZ.out]; exact own_mono (own_set (own_set (own_set L6.out hsz _) hsz _) hsz _) (by omega)
      · rw [HPP.out]; exact own_mono (own_set (own_set (own_set P6.out (by omega) _) (by omega) _) (by omega) _) (by omega)
      · exact ((B6.setCell (Nat.le_refl _) _).setCell (Nat.le_refl _) _).setCell (Nat.le_refl _) _

end Go.Proofs.YtjjddjohckcmbaaDoor

namespace Go.Proofs.YtjjddjohckcmbaaDoor
open Go.ChangeShapes Go.WideShapes Go.ChangeAt Go.RowKit
set_option linter.unusedVariables false
set_option linter.unusedSimpArgs false

/-- The cells of the first j nodes, and nothing yet behind them. -/
def ndA (f : Nat → Int × Int) (j : Nat) : Array Value := ((List.range 6).flatMap fun i => if i < j then [Value.int .i64 (f i).1, .int .i64 (f i).2, .bool false] else [.int .i64 0, .int .i64 0, .bool false]).toArray
theorem nd_set (f : Nat → Int × Int) {j : Nat} (hj : j < 6) : (((ndA f j).setIfInBounds (j * 3) (.int .i64 (f j).1)).setIfInBounds (j * 3 + 1) (.int .i64 (f j).2)).setIfInBounds (j * 3 + 2) (.bool false) = ndA f (j + 1) := by
  have : j = 0 ∨ j = 1 ∨ j = 2 ∨ j = 3 ∨ j = 4 ∨ j = 5 := by omega
  rcases this with rfl | rfl | rfl | rfl | rfl | rfl <;> rfl
theorem nd_new (f : Nat → Int × Int) {j : Nat} (hj : j < 6) : (ndA f j)[j * 3]? = some (.int .i64 0) ∧ (ndA f j)[j * 3 + 1]? = some (.int .i64 0) ∧ (ndA f j)[j * 3 + 2]? = some (.bool false) ∧ (ndA f (j + 1))[j * 3]? = some (.int .i64 (f j).1) ∧ (ndA f (j + 1))[j * 3 + 1]? = some (.int .i64 (f j).2) ∧ (ndA f (j + 1))[j * 3 + 2]? = some (.bool false) := by
  have : j = 0 ∨ j = 1 ∨ j = 2 ∨ j = 3 ∨ j = 4 ∨ j = 5 := by omega
  rcases this with rfl | rfl | rfl | rfl | rfl | rfl <;> exact ⟨rfl, rfl, rfl, rfl, rfl, rfl⟩
theorem nd_zero (f : Nat → Int × Int) : ndA f 0 = #[Value.int .i64 0, Value.int .i64 0, Value.bool false, Value.int .i64 0, Value.int .i64 0, Value.bool false, Value.int .i64 0, Value.int .i64 0, Value.bool false, Value.int .i64 0, Value.int .i64 0, Value.bool false, Value.int .i64 0, Value.int .i64 0, Value.bool false, Value.int .i64 0, Value.int .i64 0, Value.bool false] := rfl
theorem nd_all (f : Nat → Int × Int) : ndA f 6 = #[Value.int .i64 (f 0).1, Value.int .i64 (f 0).2, Value.bool false, Value.int .i64 (f 1).1, Value.int .i64 (f 1).2, Value.bool false, Value.int .i64 (f 2).1, Value.int .i64 (f 2).2, Value.bool false, Value.int .i64 (f 3).1, Value.int .i64 (f 3).2, Value.bool false, Value.int .i64 (f 4).1, Value.int .i64 (f 4).2, Value.bool false, Value.int .i64 (f 5).1, Value.int .i64 (f 5).2, Value.bool false] := rfl
theorem prAB (key leaf : Int) (p : List Int) (i : Nat) : ndQ key leaf p i = (prA (key / 2 ^ i) (mpC key leaf p i) (p.getD i 0), prB (key / 2 ^ i) (mpC key leaf p i) (p.getD i 0)) := by
  unfold ndQ prA prB
  split <;> rfl
theorem fr_cell {M : Nat → Prop} {u Y : World} (hf : Fr M u Y) {a : Addr} {v : Value} (h : u.cell? a = some v) (hn : ¬ M a.block) : Y.cell? a = some v := (World.cell?_of_block (hf.block a.block (World.block_lt_of_cell? u _ h) hn)).trans h
theorem ss_cell {NB : Nat} {u : World} (a b c : Nat) (v0 v1 v2 : Value) {v : Value} {p : Addr} (h : u.cell? p = some v) (hn : p.block ≠ NB) : (((u.setCell ⟨NB, a, none⟩ v0).setCell ⟨NB, b, none⟩ v1).setCell ⟨NB, c, none⟩ v2).cell? p = some v := by
  have h1 := Fr.setCell (M := fun k => k = NB) (Fr.refl _ u) ⟨NB, a, none⟩ v0 rfl
  have h2 := Fr.setCell (M := fun k => k = NB) h1 ⟨NB, b, none⟩ v1 rfl
  have h3 := Fr.setCell (M := fun k => k = NB) h2 ⟨NB, c, none⟩ v2 rfl
  exact fr_cell h3 h hn
theorem ss_blk {NB : Nat} {W0 X w1 : World} {cs : Array Value} {T : Nat} (a b c : Nat) (v0 v1 v2 : Value) (hN : Blk X NB cs T) (hfr : Fr (fun k => k = NB) W0 X) (h : Below X.heap.size X w1) : Blk (((w1.setCell ⟨NB, a, none⟩ v0).setCell ⟨NB, b, none⟩ v1).setCell ⟨NB, c, none⟩ v2) NB (((cs.setIfInBounds a v0).setIfInBounds b v1).setIfInBounds c v2) T ∧ Fr (fun k => k = NB) W0 (((w1.setCell ⟨NB, a, none⟩ v0).setCell ⟨NB, b, none⟩ v1).setCell ⟨NB, c, none⟩ v2) := by
  have hB := hN.below h hN.lt
  have hf : Fr (fun k => k = NB) W0 w1 := hfr.trans (M' := fun _ => False) (.of_below h (Nat.le_refl _)) (fun _ _ e => e.elim)
  have h1 := Fr.setCell (M := fun k => k = NB) hf ⟨NB, a, none⟩ v0 rfl
  have h2 := Fr.setCell (M := fun k => k = NB) h1 ⟨NB, b, none⟩ v1 rfl
  have h3 := Fr.setCell (M := fun k => k = NB) h2 ⟨NB, c, none⟩ v2 rfl
  exact ⟨((hB.set a v0).set b v1).set c v2, h3⟩

set_option maxRecDepth 100000 in
set_option maxHeartbeats 8000000 in
theorem nodes_any (key : Int) (la : Option Addr) (lc : Nat) (zs : List Int) (pb po pc : Nat) (p : List Int) (w : World) (hT : Tab w) (hk : 0 ≤ key ∧ key ≤ 63) (hlf : Has w .u8 la zs.length zs) (hl4 : zs.length ≤ 4) (hp : Has w .i64 (some ⟨pb, po, none⟩) 6 p) (hall : allS p = true) :
    Calls Tryd.prog 92 #[.agg #[.int .i64 key, .slice la zs.length lc, .slice (some ⟨pb, po, none⟩) 6 pc]] w fun r w' => r = .returned (.agg (ndA (ndQ key (sumL zs) p) 6)) ∧ Below w.heap.size w w' := by
  obtain ⟨E, hE⟩ : ∃ E, E = ((w.alloc (.cells #[.int .i64 key, .slice la zs.length lc, .slice (some ⟨pb, po, none⟩) 6 pc] 80)).alloc (.cells #[Value.int .i64 0, Value.int .i64 0, Value.bool false, Value.int .i64 0, Value.int .i64 0, Value.bool false, Value.int .i64 0, Value.int .i64 0, Value.bool false, Value.int .i64 0, Value.int .i64 0, Value.bool false, Value.int .i64 0, Value.int .i64 0, Value.bool false, Value.int .i64 0, Value.int .i64 0, Value.bool false] 122)).alloc (.cells #[Value.int .i64 0, Value.int .i64 0, Value.bool false, Value.int .i64 0, Value.int .i64 0, Value.bool false, Value.int .i64 0, Value.int .i64 0, Value.bool false, Value.int .i64 0, Value.int .i64 0, Value.bool false, Value.int .i64 0, Value.int .i64 0, Value.bool false, Value.int .i64 0, Value.int .i64 0, Value.bool false] 122) := ⟨_, rfl⟩
  have EW : Below w.heap.size w E := by rw [hE]; exact (((Below.refl _ _).alloc (Nat.le_refl _) _).alloc (by simp) _).alloc (by simp; omega) _
  have zE : E.heap.size = w.heap.size + 1 + 1 + 1 := by rw [hE]; simp
  have XE : Blk E w.heap.size #[.int .i64 key, .slice la zs.length lc, .slice (some ⟨pb, po, none⟩) 6 pc] 80 := by
    rw [hE]; exact ((Blk.new w _ 80).below (((Below.refl _ _).alloc (Nat.le_refl _) (.cells #[Value.int .i64 0, Value.int .i64 0, Value.bool false, Value.int .i64 0, Value.int .i64 0, Value.bool false, Value.int .i64 0, Value.int .i64 0, Value.bool false, Value.int .i64 0, Value.int .i64 0, Value.bool false, Value.int .i64 0, Value.int .i64 0, Value.bool false, Value.int .i64 0, Value.int .i64 0, Value.bool false] 122)).alloc (by simp) (.cells #[Value.int .i64 0, Value.int .i64 0, Value.bool false, Value.int .i64 0, Value.int .i64 0, Value.bool false, Value.int .i64 0, Value.int .i64 0, Value.bool false, Value.int .i64 0, Value.int .i64 0, Value.bool false, Value.int .i64 0, Value.int .i64 0, Value.bool false, Value.int .i64 0, Value.int .i64 0, Value.bool false] 122)) (by simp))
  have RE : Blk E (w.heap.size + 1) #[Value.int .i64 0, Value.int .i64 0, Value.bool false, Value.int .i64 0, Value.int .i64 0, Value.bool false, Value.int .i64 0, Value.int .i64 0, Value.bool false, Value.int .i64 0, Value.int .i64 0, Value.bool false, Value.int .i64 0, Value.int .i64 0, Value.bool false, Value.int .i64 0, Value.int .i64 0, Value.bool false] 122 := by
    have := Blk.new (w.alloc (.cells #[.int .i64 key, .slice la zs.length lc, .slice (some ⟨pb, po, none⟩) 6 pc] 80)) #[Value.int .i64 0, Value.int .i64 0, Value.bool false, Value.int .i64 0, Value.int .i64 0, Value.bool false, Value.int .i64 0, Value.int .i64 0, Value.bool false, Value.int .i64 0, Value.int .i64 0, Value.bool false, Value.int .i64 0, Value.int .i64 0, Value.bool false, Value.int .i64 0, Value.int .i64 0, Value.bool false] 122
    rw [World.size_alloc] at this
    rw [hE]; exact this.below ((Below.refl _ _).alloc (Nat.le_refl _) _) (by simp)
  have NE : Blk E (w.heap.size + 2) #[Value.int .i64 0, Value.int .i64 0, Value.bool false, Value.int .i64 0, Value.int .i64 0, Value.bool false, Value.int .i64 0, Value.int .i64 0, Value.bool false, Value.int .i64 0, Value.int .i64 0, Value.bool false, Value.int .i64 0, Value.int .i64 0, Value.bool false, Value.int .i64 0, Value.int .i64 0, Value.bool false] 122 := by
    have := Blk.new ((w.alloc (.cells #[.int .i64 key, .slice la zs.length lc, .slice (some ⟨pb, po, none⟩) 6 pc] 80)).alloc (.cells #[Value.int .i64 0, Value.int .i64 0, Value.bool false, Value.int .i64 0, Value.int .i64 0, Value.bool false, Value.int .i64 0, Value.int .i64 0, Value.bool false, Value.int .i64 0, Value.int .i64 0, Value.bool false, Value.int .i64 0, Value.int .i64 0, Value.bool false, Value.int .i64 0, Value.int .i64 0, Value.bool false] 122)) #[Value.int .i64 0, Value.int .i64 0, Value.bool false, Value.int .i64 0, Value.int .i64 0, Value.bool false, Value.int .i64 0, Value.int .i64 0, Value.bool false, Value.int .i64 0, Value.int .i64 0, Value.bool false, Value.int .i64 0, Value.int .i64 0, Value.bool false, Value.int .i64 0, Value.int .i64 0, Value.bool false] 122
    rw [World.size_alloc, World.size_alloc] at this
    rw [hE]; exact this
  obtain ⟨NB, hNB⟩ : ∃ NB, NB = w.heap.size + 2 := ⟨_, rfl⟩
  rw [← hNB] at NE
  have F1 := fldI7
  have hpb : pb < w.heap.size := by
    rcases hp.2.2 with h0 | ⟨b, o, e, h, _⟩
    · omega
    · simp at e; omega
  have pcell : ∀ j, j < 6 → w.cell? ⟨pb, po + j, none⟩ = some (.int .i64 (p.getD j 0)) := by
    rcases hp.2.2 with h0 | ⟨b, o, e, h, hc⟩
    · omega
    · have e' := e
      simp at e'
      obtain ⟨rfl, rfl⟩ := e'
      exact hc
  have e1 : sumC zs = 0 := by unfold sumC; rw [if_neg (by omega)]
  have e2 : sumV zs = sumL zs := by unfold sumV; rw [if_neg (by omega)]
  have SO : Hid (∀ u : World, Below w.heap.size w u → Calls Tryd.prog 76 #[.slice la zs.length lc] u fun r w' => r = .returned (.agg #[.int .i64 0, .int .i64 (sumL zs)]) ∧ Below u.heap.size u w') := fun u hu => by
    have := implSumOf_any la lc zs u (hlf.below hu (Nat.le_refl _)) (by omega)
    rw [e1, e2] at this
    exact this
  have SB : Hid (0 ≤ sumL zs ∧ sumL zs ≤ 65520) := sum_bd zs
  have AL : Hid (allS p = true) := hall
  clear e1 e2 hall hlf hp
  generalize sumL zs = leaf at *
  have FR : Hid (∀ j, j < 6 → ndQ key leaf p j = (prA (key / 2 ^ j) (mpC key leaf p j) (p.getD j 0), prB (key / 2 ^ j) (mpC key leaf p j) (p.getD j 0)) ∧ mpC key leaf p (j + 1) = nS (ndQ key leaf p j).1 (ndQ key leaf p j).2) := fun j _ => ⟨prAB key leaf p j, ndQ_sum key leaf p j⟩
  have FB : Hid (∀ j, (0 ≤ (ndQ key leaf p j).1 ∧ (ndQ key leaf p j).1 ≤ 65520) ∧ 0 ≤ (ndQ key leaf p j).2 ∧ (ndQ key leaf p j).2 ≤ 65520) := fun j => ndQ_bd key SB.out AL.out j
  have M0 : mpC key leaf p 0 = leaf := rfl
  have N0 := nd_zero (ndQ key leaf p)
  obtain ⟨f, hf⟩ : ∃ f, f = ndQ key leaf p := ⟨_, rfl⟩
  rw [← hf] at FR FB N0 ⊢
  have TH : Hid (∀ u : World, Below w.heap.size w u → Tab u) := fun u hu => hT.below hu (Nat.le_refl _)
  go_enter Tryd.func92, Tryd.ntmps92
  go_wp2_with fail
  simp only [← hE]
  clear hE hf hT
  refine (SO.out _ EW).mono ?_
  rintro r W0 ⟨rfl, hb1⟩
  have z1 := hb1.size
  have B0 : Below w.heap.size w W0 := EW.trans (hb1.mono (by omega))
  have XW : Blk W0 w.heap.size #[.int .i64 key, .slice la zs.length lc, .slice (some ⟨pb, po, none⟩) 6 pc] 80 := XE.below hb1 (by omega)
  have RW : Blk W0 (w.heap.size + 1) #[Value.int .i64 0, Value.int .i64 0, Value.bool false, Value.int .i64 0, Value.int .i64 0, Value.bool false, Value.int .i64 0, Value.int .i64 0, Value.bool false, Value.int .i64 0, Value.int .i64 0, Value.bool false, Value.int .i64 0, Value.int .i64 0, Value.bool false, Value.int .i64 0, Value.int .i64 0, Value.bool false] 122 := RE.below hb1 (by omega)
  have NW : Blk W0 NB (ndA f 0) 122 := by rw [N0]; exact NE.below hb1 (by omega)
  have hNW : NB < W0.heap.size := by omega
  have hX : w.heap.size ≠ NB := by omega
  have hR : w.heap.size + 1 ≠ NB := by omega
  have hP : pb ≠ NB := by omega
  have XY : Hid (∀ Y : World, Fr (fun k => k = NB) W0 Y → (Y.cell? ⟨w.heap.size, 0, none⟩ = some (.int .i64 key) ∧ Y.cell? ⟨w.heap.size, 2, none⟩ = some (.slice (some ⟨pb, po, none⟩) 6 pc)) ∧ (∀ j, j < 6 → Y.cell? ⟨pb, po + j, none⟩ = some (.int .i64 (p.getD j 0))) ∧ Below w.heap.size w Y) := fun Y hf => by
    have hb := XW.fr hf hX
    refine ⟨⟨by have := hb.cell 0; simpa using this, by have := hb.cell 2; simpa using this⟩, fun j hj => ?_, B0.trans (hf.below (B := w.heap.size) (by rintro j e; omega) B0.size)⟩
    exact (World.cell?_of_block (hf.block pb (by have := B0.size; omega) hP)).trans ((B0.cell (p := ⟨pb, po + j, none⟩) hpb).trans (pcell j hj))
  have RY : Hid (∀ Y : World, Fr (fun k => k = NB) W0 Y → Blk Y (w.heap.size + 1) #[Value.int .i64 0, Value.int .i64 0, Value.bool false, Value.int .i64 0, Value.int .i64 0, Value.bool false, Value.int .i64 0, Value.int .i64 0, Value.bool false, Value.int .i64 0, Value.int .i64 0, Value.bool false, Value.int .i64 0, Value.int .i64 0, Value.bool false, Value.int .i64 0, Value.int .i64 0, Value.bool false] 122) := fun Y hf => RW.fr hf hR
  have WN : Hid (w.heap.size + 2 = NB) := hNB.symm
  clear EW zE XE RE NE hNB SO hb1 z1 XW RW N0 pcell hpb B0
  go_wp2_with fail
  try rw [WN.out]
  go_loopw [4, 10] (fun v i wr => ∃ j : Nat, j ≤ 6 ∧ i = .int .i64 j ∧ v = .int .i64 (mpC key leaf p j) ∧ Blk wr NB (ndA f j) 122 ∧ Fr (fun k => k = NB) W0 wr) (fun _ i _ => 6 - (intOf i).toNat)
  case atStart => exact ⟨0, Nat.zero_le _, rfl, by rw [M0], NW, Fr.refl _ _⟩
  case round =>
    clear NW M0
    obtain ⟨j, hj, rfl, rfl, hN, hfr⟩ := hrel
    obtain ⟨⟨x0, x2⟩, xp, xb⟩ := XY.out _ hfr
    by_cases hlt : j < 6
    · have hlt' : (j : Int) < 6 := by omega
      obtain ⟨_, ⟨f3, f4⟩, _, _, _, _⟩ := path_facts hlt hk.1 hk.2
      obtain ⟨hfj, hnx⟩ := FR.out j hlt
      have hbj := FB.out j
      obtain ⟨n0, n1, n2, m0, m1, m2⟩ := nd_new f hlt
      have hset := nd_set f hlt
      have x3 := xp j hlt
      rw [hfj] at hset hnx hbj m0 m1
      simp only at hset hnx hbj m0 m1
      generalize p.getD j 0 = y at *
      obtain ⟨Q, hQ⟩ : ∃ Q, key / 2 ^ j = Q := ⟨_, rfl⟩
      rw [hQ] at f3 f4 hset hnx hbj m0 m1
      generalize mpC key leaf p j = x at *
      have HNX : Hid (mpC key leaf p (j + 1) = nS (prA Q x y) (prB Q x y)) := hnx
      clear hnx hfj FR FB xp
      obtain ⟨X, hXX⟩ : ∃ X, X = wr := ⟨_, rfl⟩
      subst hXX
      have hS0 : X.drew.cell? ⟨w.heap.size, 0, none⟩ = some (.int .i64 key) ∧ X.drew.cell? ⟨w.heap.size, 2, none⟩ = some (.slice (some ⟨pb, po, none⟩) 6 pc) ∧ X.drew.cell? ⟨pb, po + j, none⟩ = some (.int .i64 y) := ⟨x0, x2, x3⟩
      have zX : w.heap.size < X.heap.size ∧ pb < X.heap.size ∧ NB < X.heap.size := ⟨World.block_lt_of_cell? X _ x0, World.block_lt_of_cell? X _ x3, hN.lt⟩
      have KB : Hid (∀ w1 : World, Below X.drew.heap.size X.drew w1 → (w1.cell? ⟨w.heap.size, 0, none⟩ = some (.int .i64 key) ∧ w1.cell? ⟨w.heap.size, 2, none⟩ = some (.slice (some ⟨pb, po, none⟩) 6 pc) ∧ w1.cell? ⟨pb, po + j, none⟩ = some (.int .i64 y)) ∧ Below X.heap.size X w1 ∧ w1.cell? ⟨NB, j * 3, none⟩ = some (.int .i64 0) ∧ w1.cell? ⟨NB, j * 3 + 1, none⟩ = some (.int .i64 0) ∧ w1.cell? ⟨NB, j * 3 + 2, none⟩ = some (.bool false) ∧ w1.frozen? ⟨NB, j * 3, none⟩ = false ∧ w1.frozen? ⟨NB, j * 3 + 1, none⟩ = false ∧ w1.frozen? ⟨NB, j * 3 + 2, none⟩ = false) := fun w1 h => by
        have h0 : Below X.heap.size X w1 := (Below.refl _ X).drew.trans h
        have hB := hN.below h0 zX.2.2
        exact ⟨⟨(h0.cell (p := ⟨w.heap.size, 0, none⟩) zX.1).trans x0, (h0.cell (p := ⟨w.heap.size, 2, none⟩) zX.1).trans x2, (h0.cell (p := ⟨pb, po + j, none⟩) zX.2.1).trans x3⟩, h0, (hB.cell _).trans n0, (hB.cell _).trans n1, (hB.cell _).trans n2, hB.frozen _, hB.frozen _, hB.frozen _⟩
      have SS : Hid (∀ (u : World) (v0 v1 v2 : Value), (u.cell? ⟨w.heap.size, 0, none⟩ = some (.int .i64 key) ∧ u.cell? ⟨w.heap.size, 2, none⟩ = some (.slice (some ⟨pb, po, none⟩) 6 pc) ∧ u.cell? ⟨pb, po + j, none⟩ = some (.int .i64 y)) → ((((u.setCell ⟨NB, j * 3, none⟩ v0).setCell ⟨NB, j * 3 + 1, none⟩ v1).setCell ⟨NB, j * 3 + 2, none⟩ v2).cell? ⟨w.heap.size, 0, none⟩ = some (.int .i64 key) ∧ (((u.setCell ⟨NB, j * 3, none⟩ v0).setCell ⟨NB, j * 3 + 1, none⟩ v1).setCell ⟨NB, j * 3 + 2, none⟩ v2).cell? ⟨w.heap.size, 2, none⟩ = some (.slice (some ⟨pb, po, none⟩) 6 pc) ∧ (((u.setCell ⟨NB, j * 3, none⟩ v0).setCell ⟨NB, j * 3 + 1, none⟩ v1).setCell ⟨NB, j * 3 + 2, none⟩ v2).cell? ⟨pb, po + j, none⟩ = some (.int .i64 y))) := fun u v0 v1 v2 h => ⟨ss_cell _ _ _ _ _ _ h.1 hX, ss_cell _ _ _ _ _ _ h.2.1 hX, ss_cell _ _ _ _ _ _ h.2.2 hP⟩
      have HST : Hid (∀ w1 : World, Below X.heap.size X w1 → Blk (((w1.setCell ⟨NB, j * 3, none⟩ (.int .i64 (prA Q x y))).setCell ⟨NB, j * 3 + 1, none⟩ (.int .i64 (prB Q x y))).setCell ⟨NB, j * 3 + 2, none⟩ (.bool false)) NB (ndA f (j + 1)) 122 ∧ Fr (fun k => k = NB) W0 (((w1.setCell ⟨NB, j * 3, none⟩ (.int .i64 (prA Q x y))).setCell ⟨NB, j * 3 + 1, none⟩ (.int .i64 (prB Q x y))).setCell ⟨NB, j * 3 + 2, none⟩ (.bool false))) := fun w1 h => by
        have := ss_blk (w1 := w1) (j * 3) (j * 3 + 1) (j * 3 + 2) (.int .i64 (prA Q x y)) (.int .i64 (prB Q x y)) (.bool false) hN hfr h
        rw [hset] at this
        exact this
      have m0H : Hid (_) := m0
      have m1H : Hid (_) := m1
      have m2H : Hid (_) := m2
      clear hset n0 n1 n2 m0 m1 m2 hN x0 x2 x3 xb
      go_wp2_with fail
      refine wp_region_noPanic ?_
      refine wp_region_held_drew (S := fun u => u.cell? ⟨w.heap.size, 0, none⟩ = some (.int .i64 key) ∧ u.cell? ⟨w.heap.size, 2, none⟩ = some (.slice (some ⟨pb, po, none⟩) 6 pc) ∧ u.cell? ⟨pb, po + j, none⟩ = some (.int .i64 y)) (by kernel_rfl) hS0 (fun hHeld => ?_)
      refine take_at (i := 0) (d := some 13) (v := ?mv0) rfl rfl (by kernel_rfl) (by kernel_rfl) (by kernel_rfl) (fun _ _ _ h => h) (Or.inl ⟨by rfl, ?my0⟩) (by assumption) ?mg0
      case my0 => (intro z hSz; (try dsimp only at hSz); (try obtain ⟨hz1, hz2, hz3⟩ := hSz); go_simp; (try with_reducible rfl))
      try simp only [Act.put, List.setIfInBounds_toArray, List.set_cons_zero, List.set_cons_succ]
      refine take_at (i := 1) (d := some 14) (v := ?mv1) rfl rfl (by kernel_rfl) (by kernel_rfl) (by kernel_rfl) (fun _ _ _ h => h) (Or.inl ⟨by rfl, ?my1⟩) (by assumption) ?mg1
      case my1 => (intro z hSz; (try dsimp only at hSz); (try obtain ⟨hz1, hz2, hz3⟩ := hSz); go_simp; (try with_reducible rfl))
      try simp only [Act.put, List.setIfInBounds_toArray, List.set_cons_zero, List.set_cons_succ]
      refine take_at (i := 2) (d := some 15) (v := ?mv2) rfl rfl (by kernel_rfl) (by kernel_rfl) (by kernel_rfl) (fun _ _ _ h => h) (Or.inl ⟨by rfl, ?my2⟩) (by assumption) ?mg2
      case my2 => (intro z hSz; (try dsimp only at hSz); (try obtain ⟨hz1, hz2, hz3⟩ := hSz); go_simp; (try with_reducible rfl))
      try simp only [Act.put, List.setIfInBounds_toArray, List.set_cons_zero, List.set_cons_succ]
      refine take_at (i := 3) (d := some 16) (v := ?mv3) rfl rfl (by kernel_rfl) (by kernel_rfl) (by kernel_rfl) (fun _ _ _ h => h) (Or.inl ⟨by rfl, ?my3⟩) (by assumption) ?mg3
      case my3 => (intro z hSz; (try dsimp only at hSz); (try obtain ⟨hz1, hz2, hz3⟩ := hSz); go_simp; (try with_reducible rfl))
      try simp only [Act.put, List.setIfInBounds_toArray, List.set_cons_zero, List.set_cons_succ]
      refine take_at (i := 4) (d := some 17) (v := ?mv4) rfl rfl (by kernel_rfl) (by kernel_rfl) (by kernel_rfl) (fun _ _ _ h => h) (Or.inl ⟨by rfl, ?my4⟩) (by assumption) ?mg4
      case my4 => (intro z hSz; (try dsimp only at hSz); (try obtain ⟨hz1, hz2, hz3⟩ := hSz); go_simp; (try with_reducible rfl))
      try simp only [Act.put, List.setIfInBounds_toArray, List.set_cons_zero, List.set_cons_succ]
      refine take_at (i := 5) (d := some 18) (v := ?mv5) rfl rfl (by kernel_rfl) (by kernel_rfl) (by kernel_rfl) (fun _ _ _ h => h) (Or.inl ⟨by rfl, ?my5⟩) (by assumption) ?mg5
      case my5 => (intro z hSz; (try dsimp only at hSz); (try obtain ⟨hz1, hz2, hz3⟩ := hSz); go_simp; (try with_reducible rfl))
      try simp only [Act.put, List.setIfInBounds_toArray, List.set_cons_zero, List.set_cons_succ]
      refine take_at (i := 6) (d := some 19) (v := ?mv6) rfl rfl (by kernel_rfl) (by kernel_rfl) (by kernel_rfl) (fun _ _ _ h => h) (Or.inl ⟨by rfl, ?my6⟩) (by assumption) ?mg6
      case my6 => (intro z hSz; (try dsimp only at hSz); (try obtain ⟨hz1, hz2, hz3⟩ := hSz); go_simp; (try with_reducible rfl))
      try simp only [Act.put, List.setIfInBounds_toArray, List.set_cons_zero, List.set_cons_succ]
      refine take_at (i := 7) (d := some 20) (v := ?mv7) rfl rfl (by kernel_rfl) (by kernel_rfl) (by kernel_rfl) (fun _ _ _ h => h) (Or.inl ⟨by rfl, ?my7⟩) (by assumption) ?mg7
      case my7 => (intro z hSz; (try dsimp only at hSz); (try obtain ⟨hz1, hz2, hz3⟩ := hSz); go_simp; (try with_reducible rfl))
      try simp only [Act.put, List.setIfInBounds_toArray, List.set_cons_zero, List.set_cons_succ]
      refine take_at (i := 8) (d := some 21) (v := ?mv8) rfl rfl (by kernel_rfl) (by kernel_rfl) (by kernel_rfl) (fun _ _ _ h => h) (Or.inl ⟨by rfl, ?my8⟩) (by assumption) ?mg8
      case my8 => (intro z hSz; (try dsimp only at hSz); (try obtain ⟨hz1, hz2, hz3⟩ := hSz); go_simp; (try with_reducible rfl))
      try simp only [Act.put, List.setIfInBounds_toArray, List.set_cons_zero, List.set_cons_succ]
      refine take_at (i := 9) (d := some 22) (v := ?mv9) rfl rfl (by kernel_rfl) (by kernel_rfl) (by kernel_rfl) (fun _ _ _ h => h) (Or.inl ⟨by rfl, ?my9⟩) (by assumption) ?mg9
      case my9 => (intro z hSz; (try dsimp only at hSz); (try obtain ⟨hz1, hz2, hz3⟩ := hSz); go_simp; (try with_reducible rfl))
      try simp only [Act.put, List.setIfInBounds_toArray, List.set_cons_zero, List.set_cons_succ]
      refine take_at (i := 10) (d := some 23) (v := ?mv10) rfl rfl (by kernel_rfl) (by kernel_rfl) (by kernel_rfl) (fun _ _ _ h => h) (Or.inl ⟨by rfl, ?my10⟩) (by assumption) ?mg10
      case my10 => (intro z hSz; (try dsimp only at hSz); (try obtain ⟨hz1, hz2, hz3⟩ := hSz); go_simp; (try with_reducible rfl))
      try simp only [Act.put, List.setIfInBounds_toArray, List.set_cons_zero, List.set_cons_succ]
      refine wpAnyH_ready (rs := [11]) (by kernel_rfl) (by simp) ?_
      refine AllReadyH.cons rfl (fun K' hK' => ?_) AllReadyH.nil
      go_simp
      refine (pairAt_any Q x y _ f3).mono ?_
      rintro _ w1 ⟨rfl, hc1⟩
      have hb1 := KB.out _ hc1
      obtain ⟨hs1, b1, t0, t1, t2, t3, t4, t5⟩ := hb1
      clear hc1
      refine hK'.out _ _ hs1 (fun _ => ?_)
      clear hK' K'
      try simp only [Act.put, List.setIfInBounds_toArray, List.set_cons_zero, List.set_cons_succ]
      refine wpAnyH_ready (rs := [12]) (by kernel_rfl) (by simp) ?_
      refine AllReadyH.cons rfl (fun K' hK' => ?_) AllReadyH.nil
      go_simp
      refine hK'.out _ _ hs1 (fun _ => ?_)
      clear hK' K'
      try simp only [Act.put, List.setIfInBounds_toArray, List.set_cons_zero, List.set_cons_succ]
      refine wpAnyH_ready (rs := [13]) (by kernel_rfl) (by simp) ?_
      refine AllReadyH.cons rfl (fun K' hK' => ?_) AllReadyH.nil
      go_simp
      refine hK'.out _ _ (SS.out _ _ _ _ hs1) (fun _ => ?_)
      clear hK' K'
      try simp only [Act.put, List.setIfInBounds_toArray, List.set_cons_zero, List.set_cons_succ]
      refine wpAnyH_done (by kernel_rfl) (NoPanic.normal ?_) _
      obtain ⟨Y, hY⟩ : ∃ Y, Y = (((w1.setCell ⟨NB, j * 3, none⟩ (.int .i64 (prA Q x y))).setCell ⟨NB, j * 3 + 1, none⟩ (.int .i64 (prB Q x y))).setCell ⟨NB, j * 3 + 2, none⟩ (.bool false)) := ⟨_, rfl⟩
      obtain ⟨BY, FY⟩ := HST.out w1 b1
      rw [← hY] at BY FY
      rw [← hY]
      clear hY b1 t0 t1 t2 t3 t4 t5 hs1
      have y0 := (BY.cell (j * 3)).trans m0H.out
      have y1 := (BY.cell (j * 3 + 1)).trans m1H.out
      have y2 := (BY.cell (j * 3 + 2)).trans m2H.out
      have TY := TH.out _ (XY.out _ FY).2.2
      go_wp2_with fail
      refine (joined_any (prA Q x y) (prB Q x y) false _ TY hbj.1 (fun _ => hbj.2)).mono ?_
      rintro r u5 ⟨rfl, hb5⟩
      have BY5 := BY.below hb5 BY.lt
      have FY5 : Fr (fun k => k = NB) W0 u5 := FY.trans (M' := fun _ => False) (.of_below hb5 (Nat.le_refl _)) (fun _ _ e => e.elim)
      have BH : Hid (Blk u5 NB (ndA f (j + 1)) 122) := BY5
      clear BY FY BY5 y0 y1 y2 hb5
      go_wp2
      go_roundw
      case rel => exact ⟨j + 1, by omega, by go_num, by rw [HNX.out]; rfl, BH.out, FY5⟩
      case measure => simp [intOf]; omega
    · obtain rfl : j = 6 := by omega
      have hNB : wr.heap[NB]? = some (.cells (ndA f 6) 122 (0, 0)) := hN
      have hRB : wr.heap[w.heap.size + 1]? = some (.cells #[Value.int .i64 0, Value.int .i64 0, Value.bool false, Value.int .i64 0, Value.int .i64 0, Value.bool false, Value.int .i64 0, Value.int .i64 0, Value.bool false, Value.int .i64 0, Value.int .i64 0, Value.bool false, Value.int .i64 0, Value.int .i64 0, Value.bool false, Value.int .i64 0, Value.int .i64 0, Value.bool false] 122 (0, 0)) := RY.out _ hfr
      have BR : Hid (Below w.heap.size w (wr.setRow (w.heap.size + 1) (ndA f 6))) := below_setRow xb (by omega) _
      have HS : Hid ((wr.setRow (w.heap.size + 1) (ndA f 6)).heap[w.heap.size + 1]? = some (.cells (ndA f 6) 122 (0, 0))) := setRow_heap wr (w.heap.size + 1) _ (ndA f 6) 122 (0, 0) hRB
      have hsz : (Tryd.prog.info? 122).map (·.size) = some (ndA f 6).size := by kernel_rfl
      have hal : (ndA f 6).all (·.oneCell') = true := by kernel_rfl
      have hol : (#[Value.int .i64 0, Value.int .i64 0, Value.bool false, Value.int .i64 0, Value.int .i64 0, Value.bool false, Value.int .i64 0, Value.int .i64 0, Value.bool false, Value.int .i64 0, Value.int .i64 0, Value.bool false, Value.int .i64 0, Value.int .i64 0, Value.bool false, Value.int .i64 0, Value.int .i64 0, Value.bool false] : Array Value).size = (ndA f 6).size := rfl
      clear hN hfr FR FB x0 x2 xp xb
      go_wp2_with (first | (refine wpList_load_row rfl 122 _ rfl NB rfl 122 (ndA f 6) (0, 0) _ hNB Tryd.underlying122 rfl hsz ?_) | (refine wpList_store_row rfl 122 _ _ rfl (w.heap.size + 1) (ndA f 6) rfl rfl 122 _ hRB hsz hol hal ?_) | go_in)
      refine bodyPost_ret (v := .agg (ndA f 6)) (results_cell_row Tryd.results92 _ _ (w.heap.size + 1) 122 (ndA f 6) (0, 0) _ rfl HS.out Tryd.underlying122 rfl hsz) rfl ⟨rfl, BR.out⟩

end Go.Proofs.YtjjddjohckcmbaaDoor
