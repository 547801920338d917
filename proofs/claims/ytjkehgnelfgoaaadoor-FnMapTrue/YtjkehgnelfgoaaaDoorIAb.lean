/- Contracts: the program's level above another one. -/
import Derived.Test.YtjkehgnelfgoaaaDoorLvR
import Derived.Test.YtjkehgnelfgoaaaDoorSlP
import Derived.Test.YtjkehgnelfgoaaaDoorMoves
import Derived.Test.YtjkehgnelfgoaaaDoorLvl
import Derived.Scope
namespace Go.Proofs.YtjkehgnelfgoaaaDoor
open Go.ChangeShapes Go.WideShapes Go.ChangeAt Go.RowKit
set_option linter.unusedVariables false
set_option linter.unusedSimpArgs false

attribute [local go_sem] Oper.semAt_some

/-- The state of the rounds: where the level above lies, and what it holds. -/
structure AbS (V : Nat) (W0 : World) (us : List Int) (W : World) (av : Value) : Prop where
  v : Blk W V #[av] 27
  arow : W.ownsRow W0.heap.size 2 1 av us.length (us.map (.int .i64))
  fr : Fr (fun k => k = V) W0 W
theorem AbS.below {V : Nat} {W0 W W' : World} {us : List Int} {av : Value} (h : AbS V W0 us W av) (hb : Below W.heap.size W W') : AbS V W0 us W' av :=
  ⟨h.v.below hb h.v.lt, own_fr (M := fun _ => False) h.arow (.of_below hb (Nat.le_refl _)) (fun _ _ => id), h.fr.trans (M' := fun _ => False) (.of_below hb (Nat.le_refl _)) (fun _ _ e => e.elim)⟩
theorem AbS.kept {V : Nat} {W0 W W' : World} {us : List Int} {av : Value} {row : Option Nat} (h : AbS V W0 us W av) (hV : V < W0.heap.size) (hg : W.grownBy W' row) (hr : ∀ k, row = some k → W0.heap.size ≤ k ∧ ∃ o : Obj, W.heap[k]? = some o ∧ o.isCells = false) : AbS V W0 us W' av := by
  have hf : Fr (fun k => row = some k) W W' := .of_grown hg (fun k e => e)
  refine ⟨h.v.fr hf (fun e => by have := (hr V e).1; omega), own_fr h.arow hf (fun g e1 e2 => ?_), h.fr.trans hf (fun i hi e => by have := (hr i e).1; omega)⟩
  obtain ⟨cs, hc⟩ := own_cells h.arow e1
  obtain ⟨_, o, ho, hn⟩ := hr g e2
  rw [hc] at ho; cases ho; cases hn
theorem AbS.appendV {V : Nat} {W0 W W2 W3 : World} {av av' : Value} {x : Int} {us : List Int} (h : AbS V W0 us W av) (hV : V < W0.heap.size)
    (hb : Below W.heap.size W W2) (hown : W3.ownsRow W0.heap.size 2 1 av' (us.length + 1) (us.map (.int .i64) ++ [.int .i64 x])) (hg : W2.grownBy W3 av.ownBlock) :
    AbS V W0 (us ++ [x]) (W3.setCell ⟨V, 0, none⟩ av') av' ∧ Fr (fun k => k = V ∨ av.ownBlock = some k) W (W3.setCell ⟨V, 0, none⟩ av') ∧ Blk W3 V #[av] 27 := by
  have h2 := h.below hb
  have f3 : Fr (fun k => av.ownBlock = some k) W2 W3 := .of_grown hg (fun k e => e)
  have hav : ∀ k, av.ownBlock = some k → W0.heap.size ≤ k := fun k e => (h2.arow.lt k e).1
  have v3 : Blk W3 V #[av] 27 := h2.v.fr f3 (fun e => by have := hav V e; omega)
  have fs : Fr (fun k => k = V) W3 (W3.setCell ⟨V, 0, none⟩ av') := (Fr.refl _ _).setCell _ _ rfl
  refine ⟨⟨by have := v3.set 0 av'; simpa using this, ?_, ?_⟩, ?_, v3⟩
  · have := own_fr hown fs (fun g e1 e2 => by have := (hown.lt g e1).1; omega)
    simpa using this
  · refine (h2.fr.trans f3 (fun i hi e => ?_)).trans fs (fun i hi e => e)
    have := hav i e; omega
  · exact ((Fr.of_below hb (Nat.le_refl _)).trans f3 (fun i _ e => .inr e)).trans fs (fun i _ e => .inl e)
/-- What a round owes to the loop over the iterator. -/
theorem AbS.pays {V B bl : Nat} {W0 W W' : World} {av : Value} {us : List Int} (h : AbS V W0 us W av) (hV : V < W0.heap.size)
    (hB : B < W0.heap.size) (hbl : bl < W0.heap.size) (nB : B ≠ V) (nb : bl ≠ V) (hf : Fr (fun k => k = V ∨ av.ownBlock = some k) W W') : KeepsFrom W0.heap.size W W' ∧ KpB (fun k => k = B ∨ k = bl) W W' := by
  refine ⟨⟨hf.size, fun k o hk ho hn => ?_⟩, fun k hk => ?_⟩
  · refine (hf.block k (Array.getElem?_eq_some_iff.1 ho).1 ?_).trans ho
    rintro (e | e)
    · omega
    · obtain ⟨cs, hc⟩ := own_cells h.arow e
      rw [hc] at ho; cases ho; cases hn
  · have hk0 : k < W0.heap.size ∧ k ≠ V := by
      rcases hk with rfl | rfl
      · exact ⟨hB, nB⟩
      · exact ⟨hbl, nb⟩
    refine hf.block k (Nat.lt_of_lt_of_le hk0.1 h.fr.size) ?_
    rintro (e | e)
    · exact hk0.2 e
    · have := (h.arow.lt k e).1
      omega
/-- The activation of a round. -/
def actA (V bl off n lc k Bx : Nat) (A1 B1 : Int) (L1 : Bool) : Act :=
  { tmps := #[.slice (some ⟨bl, off, none⟩) n lc, undef, .slice none 0 0, .pointer (some ⟨V, 0, none⟩), undef, .pointer (some ⟨Bx, 0, none⟩), .slice (some ⟨bl, off, none⟩) n lc, .func (.func 106) #[] #[.pointer (some ⟨V + 1, 0, none⟩)], .int .i64 k, .agg #[.int .i64 A1, .int .i64 B1, .bool L1], undef, undef, undef, undef, undef, undef], defers := [] }

set_option maxRecDepth 100000 in
set_option maxHeartbeats 4000000 in
theorem levelAbove_any (x : Option Addr) (c : Nat) (zs : List Int) (w : World) (hT : Tab w) (hp : Has w .i64 x zs.length zs) (hl : zs.length ≤ 1000) (hpos : 1 ≤ zs.length) (hall : allS zs = true) :
    Calls Tryd.prog 79 #[.slice x zs.length c] w fun r w' => ∃ pa pc, r = .returned (.slice pa (upL nS zs).length pc) ∧ OwnI w' w.heap.size (.slice pa (upL nS zs).length pc) (upL nS zs) ∧ Below w.heap.size w w' := by
  obtain ⟨i0, hi0, hz0, hz1, hz2⟩ := info_parts info64
  obtain ⟨bl, off, rfl, hblt, hcell⟩ : ∃ b off, x = some ⟨b, off, none⟩ ∧ b < w.heap.size ∧ ∀ i, i < zs.length → w.cell? ⟨b, off + i, none⟩ = some (.int .i64 (zs.getD i 0)) := by
    rcases hp.2.2 with h | h
    · omega
    · exact h
  refine (callsIn_wide (n := 5)).1 ?_
  refine callsIn_of_wp_marks Tryd.func79 rfl trivial ?_ rfl
  simp only [Tryd.ntmps79, List.size_toArray, List.length_cons, List.length_nil, Nat.reduceAdd, Nat.reduceSub, Array.replicate_succ, Array.replicate_zero, List.push_toArray, List.append_toArray, List.nil_append, List.cons_append]
  gi_wp2_with (refine ⟨trivial, ?_⟩; gi_at_call 98; refine (callsIn_wide.2 (pairsOf_any _ _ _ _)).mono ?_; rintro r u2 ⟨rfl, rfl⟩)
  obtain ⟨V, hV⟩ : ∃ V, V = w.heap.size := ⟨_, rfl⟩
  have aS : ∀ o : Obj, Below w.heap.size w (w.alloc o) := fun o => (Below.refl _ _).alloc (Nat.le_refl _) o
  have b0 : Below w.heap.size w ((w.alloc (.cells #[.slice none 0 0] 27)).alloc (.cells #[.slice (some ⟨bl, off, none⟩) zs.length c] 27)) := (aS _).alloc (by simp) _
  have hVb : Blk ((w.alloc (.cells #[.slice none 0 0] 27)).alloc (.cells #[.slice (some ⟨bl, off, none⟩) zs.length c] 27)) V #[.slice none 0 0] 27 := by
    rw [hV]; exact (Blk.new w #[.slice none 0 0] 27).below ((Below.refl _ _).alloc (Nat.le_refl _) _) (by simp)
  have hBb : Blk ((w.alloc (.cells #[.slice none 0 0] 27)).alloc (.cells #[.slice (some ⟨bl, off, none⟩) zs.length c] 27)) (V + 1) #[.slice (some ⟨bl, off, none⟩) zs.length c] 27 := by
    have := Blk.new (w.alloc (.cells #[.slice none 0 0] 27)) #[.slice (some ⟨bl, off, none⟩) zs.length c] 27
    rw [World.size_alloc] at this
    rw [hV]; exact this
  have hsz : ((w.alloc (.cells #[.slice none 0 0] 27)).alloc (.cells #[.slice (some ⟨bl, off, none⟩) zs.length c] 27)).heap.size = V + 2 := by simp [hV]
  rw [← hV]
  generalize (w.alloc (.cells #[.slice none 0 0] 27)).alloc (.cells #[.slice (some ⟨bl, off, none⟩) zs.length c] 27) = W0 at *
  have I0 : AbS V W0 [] W0 (.slice none 0 0) := ⟨hVb, World.ownsRow_nil _ _ _ _, Fr.refl _ _⟩
  have hcell0 : ∀ j, j < zs.length → W0.cell? ⟨bl, off + j, none⟩ = some (.int .i64 (zs[j]?.getD 0)) := fun j hj => by rw [b0.cell (p := ⟨bl, off + j, none⟩) hblt, hcell j hj, List.getD_eq_getElem?_getD]
  have hbV : bl < V := by omega
  have TabOf : Hid (∀ Y : World, Fr (fun k => k = V) W0 Y → Tab Y) := fun Y hf => hT.below (b0.trans (hf.below (B := w.heap.size) (by rintro j e; omega) (by omega))) (Nat.le_refl _)
  have BWF : Hid (∀ Y : World, Fr (fun k => k = V) W0 Y → Below w.heap.size w Y) := fun Y hf => b0.trans (hf.below (B := w.heap.size) (by rintro j e; omega) (by omega))
  have WV : Hid (V = w.heap.size) := hV
  have hs1 : V + 2 ≤ W0.heap.size := by omega
  have hs2 : W0.heap.size ≤ V + 2 := by omega
  clear hcell b0 aS hV hsz hblt hT hp
  refine wpIn_rangeFunc_ownH (F := Fence.wide) rfl (by decide) (gf := 106) (lb := #[.pointer (some ⟨V + 1, 0, none⟩)]) rfl trivial (enters_of Tryd.func106 (by kernel_rfl) rfl)
    (pairs_stops 4 (V + 1) bl off c zs (Nat.le_trans hl (by decide)) hpos W0 (by have := hBb.cell 0; simpa using this) hcell0) (fun h k b hb => (k b hb).trans (h b hb))
    (fun X l o o' hl _ _ _ b hb => World.putObj_heap_other (by rcases hb with rfl | rfl <;> omega)) (Below.refl _ _) (fun _ => rfl)
    (fun pre X => ∃ av, AbS V W0 (pre.map (fun x => jP zs x.1)) X av) (fun _ _ _ => False)
    (fun s X Y row hs hg hr => by obtain ⟨av, h⟩ := hs; exact ⟨av, h.kept (by omega) hg hr⟩) (fun _ _ _ _ _ hs _ _ => hs) ⟨.slice none 0 0, I0⟩
    (fun x0 b' X => ∃ Bx, W0.heap.size ≤ Bx ∧ Blk X Bx #[.int .i64 (pA zs x0.1), .int .i64 (pB zs x0.1), .bool (pL zs x0.1)] 115 ∧ b' = actA V bl off zs.length c x0.1 Bx (pA zs x0.1) (pB zs x0.1) (pL zs x0.1))
    (fun x0 b' s X Y row hs hg hr => by
      obtain ⟨Bx, h1, h2, h3⟩ := hs
      refine ⟨Bx, h1, h2.fr (M := fun k => row = some k) (.of_grown hg (fun k e => e)) (fun e => ?_), h3⟩
      obtain ⟨_, o, ho, hn⟩ := hr Bx e
      rw [show X.heap[Bx]? = _ from h2] at ho; cases ho; cases hn) ?assign ?body ?done ?stop
  case assign =>
    rintro l pre x0 X K' ⟨av, hi⟩ hK'
    unfold encP
    gi_wp2
    exact hK' _ _ ((KeepsOthers.alloc X _).from _) (fun b hb => Below.heap_alloc X _ b (by have := hi.fr.size; rcases hb with rfl | rfl <;> omega)) ⟨av, hi.below ((Below.refl _ _).alloc (Nat.le_refl _) _)⟩ ⟨X.heap.size, hi.fr.size, Blk.new _ _ _, rfl⟩
  case body =>
    rintro l pre ⟨k, hk⟩ b' X hl' - ⟨av, hi⟩ ⟨Bx, hBx, bX, rfl⟩ hlt
    dsimp only at bX ⊢
    have hA := pA_bd hall k hk
    have hB := pB_bd hall k hk
    have HJ : Hid (jP zs k = jn (pA zs k) (pB zs k) (pL zs k)) := rfl
    have TX : Hid (Tab X) := TabOf.out _ hi.fr
    generalize pA zs k = A1 at *
    generalize pB zs k = B1 at *
    generalize pL zs k = L1 at *
    have p0 := bX.cell 0
    have p1 := bX.cell 1
    have p2 := bX.cell 2
    simp at p0 p1 p2
    have hu : (pre.map (fun x => jP zs x.1)).length ≤ 600 := by simp; omega
    generalize hus : pre.map (fun x => jP zs x.1) = us at *
    have FIN : ∀ (Y : World) (av2 : Value), AbS V W0 (us ++ [jn A1 B1 L1]) Y av2 → Fr (fun j => j = V ∨ av.ownBlock = some j) X Y → KeepsFrom W0.heap.size X Y ∧ KpB (fun j => j = V + 1 ∨ j = bl) X Y ∧ ∃ av, AbS V W0 ((pre ++ [(⟨k, hk⟩ : Pl zs)]).map (fun x => jP zs x.1)) Y av := fun Y av2 h hf => by
      obtain ⟨f1, f2⟩ := hi.pays (B := V + 1) (bl := bl) (by omega) (by omega) (by omega) (by omega) (by omega) hf
      refine ⟨f1, f2, av2, ?_⟩
      have e1 : (pre ++ [(⟨k, hk⟩ : Pl zs)]).map (fun x => jP zs x.1) = us ++ [jn A1 B1 L1] := by rw [List.map_append, hus, List.map_singleton]; exact congrArg (fun t => us ++ [t]) HJ.out
      rw [e1]
      exact h
    unfold actA
    gi_wp2_with fail
    refine wpIn_round_held (S := fun u => Blk u Bx #[.int .i64 A1, .int .i64 B1, .bool L1] 115) (by kernel_rfl) (by kernel_rfl) (fun ⟨_, _, h⟩ => h) (bX.below (Below.refl _ _).drew bX.lt) (fun hs => ?_)
    have hid := hi.below (W' := X.drew) (Below.refl _ _).drew
    refine take_at (i := 1) (d := some 11) (v := .agg #[.int .i64 A1, .int .i64 B1, .bool L1]) rfl rfl (by kernel_rfl) (by kernel_rfl) (by kernel_rfl) (fun _ _ _ h => h) (Or.inl ⟨by rfl, ?y1⟩) hs ?g1
    case y1 => (intro z hSz; have e0 := hSz.cell 0; have e1 := hSz.cell 1; have e2 := hSz.cell 2; simp at e0 e1 e2; go_simp)
    try simp only [Act.put, List.setIfInBounds_toArray, List.set_cons_zero, List.set_cons_succ]
    refine wpAnyH_ready (rs := [0, 2]) (by kernel_rfl) (by simp) ?_
    refine AllReadyH.cons rfl (fun K' hK' => ?_) (AllReadyH.cons rfl (fun K' hK' => ?_) AllReadyH.nil)
    · have v0 := (hid).v.cell 0
      simp at v0
      go_simp
      refine hK'.out _ _ hs (fun _ => ?_)
      clear hK' K'
      try simp only [Act.put, List.setIfInBounds_toArray, List.set_cons_zero, List.set_cons_succ]
      refine wpAnyH_ready (rs := [2]) (by kernel_rfl) (by simp) ?_
      refine AllReadyH.cons rfl (fun K' hK' => ?_) AllReadyH.nil
      go_simp
      refine (joined_any A1 B1 L1 _ (TX.out.below (Below.refl _ _).drew (Nat.le_refl _)) hA (fun _ => hB)).mono ?_
      rintro _ w1 ⟨rfl, hc1⟩
      refine hK'.out _ _ (hs.below hc1 hs.lt) (fun hs1 => ?_)
      clear hK' K'
      try simp only [Act.put, List.setIfInBounds_toArray, List.set_cons_zero, List.set_cons_succ]
      refine wpAnyH_ready (rs := [3]) (by kernel_rfl) (by simp) ?_
      refine AllReadyH.cons rfl (fun K' hK' => ?_) AllReadyH.nil
      go_simp
      refine hK'.out _ _ (hs1.below ((Below.refl _ _).alloc (Nat.le_refl _) _) hs1.lt) (fun hs2 => ?_)
      clear hK' K'
      try simp only [Act.put, List.setIfInBounds_toArray, List.set_cons_zero, List.set_cons_succ]
      have hd2 := (hid.below hc1).below (W' := w1.alloc (.cells #[.int .i64 (jn A1 B1 L1)] 2)) ((Below.refl _ _).alloc (Nat.le_refl _) _)
      refine wpAnyH_ready (rs := [4]) (by kernel_rfl) (by simp) ?_
      refine AllReadyH.cons rfl (fun K' hK' => ?_) AllReadyH.nil
      refine step_app1 rfl _ _ 27 rfl W0.heap.size 2 i0 Tryd.underlying27 hi0 hz0 hz1 hz2 av us.length (us.map (.int .i64)) rfl hd2.arow w1.heap.size 1 (jn A1 B1 L1) rfl (by simp [go_sem]) (by omega) (by have := hd2.fr.size; omega) ?_
      intro g' c' w3 hown hgrow hnew
      obtain ⟨E1, E2, E3⟩ := hi.appendV (by omega) (((Below.refl _ X).drew.trans hc1).alloc hc1.size _) hown hgrow
      have nBx : av.ownBlock ≠ some Bx := fun e => (by obtain ⟨cs, hcs⟩ := own_cells hd2.arow e; rw [show _ = _ from hs2] at hcs; simp at hcs)
      refine hK'.out _ _ (hs2.fr (M := fun j => av.ownBlock = some j) (.of_grown hgrow (fun j e => e)) nBx) (fun hs3 => ?_)
      clear hK' K'
      try simp only [Act.put, List.setIfInBounds_toArray, List.set_cons_zero, List.set_cons_succ]
      have v3 := E3.cell 0
      have v4 := E3.frozen 0
      simp at v3
      refine wpAnyH_ready (rs := [5]) (by kernel_rfl) (by simp) ?_
      refine AllReadyH.cons rfl (fun K' hK' => ?_) AllReadyH.nil
      go_simp
      refine hK'.out _ _ (hs3.fr (M := fun j => j = V) (by refine Fr.setCell (Fr.refl _ _) _ _ ?_; rfl) (show Bx ≠ V by omega)) (fun hs4 => ?_)
      clear hK' K'
      try simp only [Act.put, List.setIfInBounds_toArray, List.set_cons_zero, List.set_cons_succ]
      refine wpAnyH_done (by kernel_rfl) ?_ _
      exact FIN _ _ E1 E2
    · go_simp
      refine (joined_any A1 B1 L1 _ (TX.out.below (Below.refl _ _).drew (Nat.le_refl _)) hA (fun _ => hB)).mono ?_
      rintro _ w1 ⟨rfl, hc1⟩
      refine hK'.out _ _ (hs.below hc1 hs.lt) (fun hs1 => ?_)
      clear hK' K'
      try simp only [Act.put, List.setIfInBounds_toArray, List.set_cons_zero, List.set_cons_succ]
      refine wpAnyH_ready (rs := [0, 3]) (by kernel_rfl) (by simp) ?_
      refine AllReadyH.cons rfl (fun K' hK' => ?_) (AllReadyH.cons rfl (fun K' hK' => ?_) AllReadyH.nil)
      · have v0 := (hid.below hc1).v.cell 0
        simp at v0
        go_simp
        refine hK'.out _ _ hs1 (fun _ => ?_)
        clear hK' K'
        try simp only [Act.put, List.setIfInBounds_toArray, List.set_cons_zero, List.set_cons_succ]
        refine wpAnyH_ready (rs := [3]) (by kernel_rfl) (by simp) ?_
        refine AllReadyH.cons rfl (fun K' hK' => ?_) AllReadyH.nil
        go_simp
        refine hK'.out _ _ (hs1.below ((Below.refl _ _).alloc (Nat.le_refl _) _) hs1.lt) (fun hs2 => ?_)
        clear hK' K'
        try simp only [Act.put, List.setIfInBounds_toArray, List.set_cons_zero, List.set_cons_succ]
        have hd2 := (hid.below hc1).below (W' := w1.alloc (.cells #[.int .i64 (jn A1 B1 L1)] 2)) ((Below.refl _ _).alloc (Nat.le_refl _) _)
        refine wpAnyH_ready (rs := [4]) (by kernel_rfl) (by simp) ?_
        refine AllReadyH.cons rfl (fun K' hK' => ?_) AllReadyH.nil
        refine step_app1 rfl _ _ 27 rfl W0.heap.size 2 i0 Tryd.underlying27 hi0 hz0 hz1 hz2 av us.length (us.map (.int .i64)) rfl hd2.arow w1.heap.size 1 (jn A1 B1 L1) rfl (by simp [go_sem]) (by omega) (by have := hd2.fr.size; omega) ?_
        intro g' c' w3 hown hgrow hnew
        obtain ⟨E1, E2, E3⟩ := hi.appendV (by omega) (((Below.refl _ X).drew.trans hc1).alloc hc1.size _) hown hgrow
        have nBx : av.ownBlock ≠ some Bx := fun e => (by obtain ⟨cs, hcs⟩ := own_cells hd2.arow e; rw [show _ = _ from hs2] at hcs; simp at hcs)
        refine hK'.out _ _ (hs2.fr (M := fun j => av.ownBlock = some j) (.of_grown hgrow (fun j e => e)) nBx) (fun hs3 => ?_)
        clear hK' K'
        try simp only [Act.put, List.setIfInBounds_toArray, List.set_cons_zero, List.set_cons_succ]
        have v3 := E3.cell 0
        have v4 := E3.frozen 0
        simp at v3
        refine wpAnyH_ready (rs := [5]) (by kernel_rfl) (by simp) ?_
        refine AllReadyH.cons rfl (fun K' hK' => ?_) AllReadyH.nil
        go_simp
        refine hK'.out _ _ (hs3.fr (M := fun j => j = V) (by refine Fr.setCell (Fr.refl _ _) _ _ ?_; rfl) (show Bx ≠ V by omega)) (fun hs4 => ?_)
        clear hK' K'
        try simp only [Act.put, List.setIfInBounds_toArray, List.set_cons_zero, List.set_cons_succ]
        refine wpAnyH_done (by kernel_rfl) ?_ _
        exact FIN _ _ E1 E2
      · go_simp
        refine hK'.out _ _ (hs1.below ((Below.refl _ _).alloc (Nat.le_refl _) _) hs1.lt) (fun hs2 => ?_)
        clear hK' K'
        try simp only [Act.put, List.setIfInBounds_toArray, List.set_cons_zero, List.set_cons_succ]
        refine wpAnyH_ready (rs := [0]) (by kernel_rfl) (by simp) ?_
        refine AllReadyH.cons rfl (fun K' hK' => ?_) AllReadyH.nil
        have v0 := ((hid.below hc1).below (W' := w1.alloc (.cells #[.int .i64 (jn A1 B1 L1)] 2)) ((Below.refl _ _).alloc (Nat.le_refl _) _)).v.cell 0
        simp at v0
        go_simp
        refine hK'.out _ _ hs2 (fun _ => ?_)
        clear hK' K'
        try simp only [Act.put, List.setIfInBounds_toArray, List.set_cons_zero, List.set_cons_succ]
        have hd2 := (hid.below hc1).below (W' := w1.alloc (.cells #[.int .i64 (jn A1 B1 L1)] 2)) ((Below.refl _ _).alloc (Nat.le_refl _) _)
        refine wpAnyH_ready (rs := [4]) (by kernel_rfl) (by simp) ?_
        refine AllReadyH.cons rfl (fun K' hK' => ?_) AllReadyH.nil
        refine step_app1 rfl _ _ 27 rfl W0.heap.size 2 i0 Tryd.underlying27 hi0 hz0 hz1 hz2 av us.length (us.map (.int .i64)) rfl hd2.arow w1.heap.size 1 (jn A1 B1 L1) rfl (by simp [go_sem]) (by omega) (by have := hd2.fr.size; omega) ?_
        intro g' c' w3 hown hgrow hnew
        obtain ⟨E1, E2, E3⟩ := hi.appendV (by omega) (((Below.refl _ X).drew.trans hc1).alloc hc1.size _) hown hgrow
        have nBx : av.ownBlock ≠ some Bx := fun e => (by obtain ⟨cs, hcs⟩ := own_cells hd2.arow e; rw [show _ = _ from hs2] at hcs; simp at hcs)
        refine hK'.out _ _ (hs2.fr (M := fun j => av.ownBlock = some j) (.of_grown hgrow (fun j e => e)) nBx) (fun hs3 => ?_)
        clear hK' K'
        try simp only [Act.put, List.setIfInBounds_toArray, List.set_cons_zero, List.set_cons_succ]
        have v3 := E3.cell 0
        have v4 := E3.frozen 0
        simp at v3
        refine wpAnyH_ready (rs := [5]) (by kernel_rfl) (by simp) ?_
        refine AllReadyH.cons rfl (fun K' hK' => ?_) AllReadyH.nil
        go_simp
        refine hK'.out _ _ (hs3.fr (M := fun j => j = V) (by refine Fr.setCell (Fr.refl _ _) _ _ ?_; rfl) (show Bx ≠ V by omega)) (fun hs4 => ?_)
        clear hK' K'
        try simp only [Act.put, List.setIfInBounds_toArray, List.set_cons_zero, List.set_cons_succ]
        refine wpAnyH_done (by kernel_rfl) ?_ _
        exact FIN _ _ E1 E2
  case done =>
    rintro D ys Y hD rfl ⟨av, hi⟩ hKD
    rw [upP_map] at hi
    have v0 := hi.v.cell 0
    simp at v0
    obtain ⟨pa, pc, rfl⟩ := own_row_shape hi.arow
    have AR : Hid (OwnI Y W0.heap.size (.slice pa (upL nS zs).length pc) (upL nS zs)) := hi.arow
    have FR : Hid (Fr (fun k => k = V) W0 Y) := hi.fr
    clear hi
    gi_wp2_with fail
    have hD0 : w.heap.size ≤ D := by have := WV.out; omega
    refine leaves_marks (base := w.heap.size) _ _ ⟨D, rfl, hD0, hKD, by simp, trivial⟩ ?_
    intro W' hf
    have hfm : Fr (fun k => k = D) Y W' := hf.mono (fun k ⟨d, hd, e⟩ => by simp at hd; subst hd; simpa using e.symm)
    have B1 : Below w.heap.size w W' := (BWF.out _ FR.out).trans (hfm.below (fun k e => by omega) (by have := FR.out.size; have := WV.out; omega))
    have AR2 : OwnI W' W0.heap.size (.slice pa (upL nS zs).length pc) (upL nS zs) := own_fr AR.out hfm (fun g e1 e2 => by
      obtain ⟨cs, hc⟩ := own_cells AR.out e1
      rw [e2, hKD] at hc
      cases hc)
    have BB : w.heap.size ≤ W0.heap.size := by have := WV.out; omega
    refine ⟨.slice pa (upL nS zs).length pc, by simp [results, Tryd.results79, go_sem], pa, pc, rfl, own_mono AR2 BB, B1⟩
  case stop =>
    rintro D c pre X _ _ h _
    exact h.elim

end Go.Proofs.YtjkehgnelfgoaaaDoor
