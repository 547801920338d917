/- Contracts of the program's chapter 8: the public numbers of a key. -/
import Derived.Test.YtffidkoejlebeaaDoorKyB
import Derived.Test.YtffidkoejlebeaaDoorKyI
import Derived.Test.YtffidkoejlebeaaDoorMoves
import Derived.Test.YtffidkoejlebeaaDoorLvl
import Derived.Scope
namespace Go.Proofs.YtffidkoejlebeaaDoor
open Go.ChangeShapes Go.WideShapes Go.ChangeAt Go.RowKit
set_option maxRecDepth 100000
set_option linter.unusedVariables false
set_option linter.unusedSimpArgs false

attribute [local go_sem] Oper.semAt_some

/-- Two numbers appended to a row of one's own, at a step of a region that draws. -/
theorem step_app2 {P : Program} {ops : Array Oper} {o : Oper} {a : Act} {w : World} {K : Act → World → Prop} {Q : Exit → Act → World → Prop} {E : Prop} (hgd : o.guard = none) (s x : Operand) (t : TypeId)
    (ho : o.op = .call { callee := .builtin .append, args := #[s, x], argTypes := #[t, t] }) (base e : TypeId) (i : TypeInfo) (ht : P.underlying t = some (.slice e)) (hi : P.info? e = some i) (hz : i.zero = some (.int .i64 0)) (hsize : i.size = 1) (hby : i.bytes = 8)
    (v : Value) (n : Nat) (xs : List Value) (hs : a.eval s = v) (hown : w.ownsRow base e 1 v n xs) (g c : Nat) (y z : Int) (hx : a.eval x = .slice (some ⟨g, 0, none⟩) 2 c) (hy : w.cell? ⟨g, 0, none⟩ = some (.int .i64 y)) (hy2 : w.cell? ⟨g, 1, none⟩ = some (.int .i64 z)) (hn : n ≤ 1000) (hbase : base ≤ w.heap.size)
    (h : ∀ g' c' w', w'.ownsRow base e 1 (.slice (some ⟨g', 0, none⟩) (n + 2) c') (n + 2) (xs ++ [.int .i64 y, .int .i64 z]) → w.grownBy w' v.ownBlock → ((Value.slice (some ⟨g', 0, none⟩) (n + 2) c').ownBlock = v.ownBlock ∨ (Value.slice (some ⟨g', 0, none⟩) (n + 2) c').ownBlock = some w.heap.size) → K (a.put o.dst (.slice (some ⟨g', 0, none⟩) (n + 2) c')) w') :
    if Region.wanted o (yielded ops a.tmps) = true then Oper.wp P o a w K Q else E := by
  have hw : Region.wanted o (yielded ops a.tmps) = true := by simp [Region.wanted, hgd]
  rw [if_pos hw]
  obtain ⟨v', w', hr, h2, h3, _, h5⟩ := run_append_own_at (P := P) w base t o.type e i (.int .i64 0) 1 8 ht hi hz hsize hby rfl (by decide) v n xs hown ⟨g, 0, none⟩ 2 c [.int .i64 y, .int .i64 z] rfl
    (fun j u hu => by
      match j with
      | 0 => simp at hu; subst hu; exact hy
      | 1 => simp at hu; subst hu; exact hy2
      | j + 2 => simp at hu) (by intro u hu; simp at hu; rcases hu with rfl | rfl <;> rfl) (by unfold maxLen; omega) (by omega) hbase
  obtain ⟨g', c', rfl⟩ := ownsRow_succ h2
  unfold Oper.wp execOp
  simp only [ho, resolve, invoke, builtin, Sem.run_bind, Sem.run_pure, Result.andThen_ok, List.map_toArray, List.map_cons, List.map_nil, hs, hx, hr]
  exact h g' c' w' h2 h3 h5

theorem callsIn_round {l n : Nat} {P : Program} {f : FuncId} {args : Array Value} {w : World} {R : Ending → World → Prop} (h : CallsIn Fence.wide n P f args w R) : CallsIn (Fence.wide.inRound l) n P f args w R := h
/-- Numbers in memory of one's own. -/
abbrev OwnM (w : World) (base : Nat) (v : Value) (zs : List Int) : Prop := w.ownsRow base 2 1 v zs.length (zs.map (.int .i64))
/-- The state of the rounds: where the list lies, and what it holds. -/
structure LsS (V : Nat) (W0 : World) (us : List Int) (W : World) (av : Value) : Prop where
  v : Blk W V #[av] 44
  arow : W.ownsRow W0.heap.size 2 1 av us.length (us.map (.int .i64))
  fr : Fr (fun k => k = V) W0 W
theorem LsS.below {V : Nat} {W0 W W' : World} {us : List Int} {av : Value} (h : LsS V W0 us W av) (hb : Below W.heap.size W W') : LsS V W0 us W' av :=
  ⟨h.v.below hb h.v.lt, own_fr (M := fun _ => False) h.arow (.of_below hb (Nat.le_refl _)) (fun _ _ => id), h.fr.trans (M' := fun _ => False) (.of_below hb (Nat.le_refl _)) (fun _ _ e => e.elim)⟩
theorem LsS.kept {V : Nat} {W0 W W' : World} {us : List Int} {av : Value} {row : Option Nat} (h : LsS V W0 us W av) (hV : V < W0.heap.size) (hg : W.grownBy W' row) (hr : ∀ k, row = some k → W0.heap.size ≤ k ∧ ∃ o : Obj, W.heap[k]? = some o ∧ o.isCells = false) : LsS V W0 us W' av := by
  have hf : Fr (fun k => row = some k) W W' := .of_grown hg (fun k e => e)
  refine ⟨h.v.fr hf (fun e => by have := (hr V e).1; omega), own_fr h.arow hf (fun g e1 e2 => ?_), h.fr.trans hf (fun i hi e => by have := (hr i e).1; omega)⟩
  obtain ⟨cs, hc⟩ := own_cells h.arow e1
  obtain ⟨_, o, ho, hn⟩ := hr g e2
  rw [hc] at ho; cases ho; cases hn
theorem LsS.appendV {V : Nat} {W0 W W2 W3 : World} {av av' : Value} {us ys : List Int} (h : LsS V W0 us W av) (hV : V < W0.heap.size)
    (hb : Below W.heap.size W W2) (hown : W3.ownsRow W0.heap.size 2 1 av' (us.length + ys.length) (us.map (.int .i64) ++ ys.map (.int .i64))) (hg : W2.grownBy W3 av.ownBlock) :
    LsS V W0 (us ++ ys) (W3.setCell ⟨V, 0, none⟩ av') av' ∧ Fr (fun k => k = V ∨ av.ownBlock = some k) W (W3.setCell ⟨V, 0, none⟩ av') ∧ Blk W3 V #[av] 44 := by
  have h2 := h.below hb
  have f3 : Fr (fun k => av.ownBlock = some k) W2 W3 := .of_grown hg (fun k e => e)
  have hav : ∀ k, av.ownBlock = some k → W0.heap.size ≤ k := fun k e => (h2.arow.lt k e).1
  have v3 : Blk W3 V #[av] 44 := h2.v.fr f3 (fun e => by have := hav V e; omega)
  have fs : Fr (fun k => k = V) W3 (W3.setCell ⟨V, 0, none⟩ av') := (Fr.refl _ _).setCell _ _ rfl
  refine ⟨⟨by have := v3.set 0 av'; simpa using this, ?_, ?_⟩, ?_, v3⟩
  · have := own_fr hown fs (fun g e1 e2 => by have := (hown.lt g e1).1; omega)
    simpa using this
  · refine (h2.fr.trans f3 (fun i hi e => ?_)).trans fs (fun i hi e => e)
    have := hav i e; omega
  · exact ((Fr.of_below hb (Nat.le_refl _)).trans f3 (fun i _ e => .inr e)).trans fs (fun i _ e => .inl e)
/-- What a round owes to the loop over the iterator. -/
theorem LsS.pays {V : Nat} {W0 W W' : World} {av : Value} {us : List Int} (h : LsS V W0 us W av) (hV : V < W0.heap.size) (hf : Fr (fun k => k = V ∨ av.ownBlock = some k) W W') : KeepsFrom W0.heap.size W W' := by
  refine ⟨hf.size, fun k o hk ho hn => ?_⟩
  refine (hf.block k (Array.getElem?_eq_some_iff.1 ho).1 ?_).trans ho
  rintro (e | e)
  · omega
  · obtain ⟨cs, hc⟩ := own_cells h.arow e
    rw [hc] at ho; cases ho; cases hn
/-- The activation of a round. -/
def actP (s i : Int) (B k : Nat) (x6 x8 : Value) : Act :=
  { tmps := #[.int .i64 s, .int .i64 i, .pointer (some ⟨B, 0, none⟩), .pointer (some ⟨B + 1, 0, none⟩), .slice none 0 0, .pointer (some ⟨B + 2, 0, none⟩), x6, undef, x8, undef, undef, undef, undef, undef, undef, undef, undef, undef], defers := [] }

set_option maxHeartbeats 4000000 in
theorem publicOf_any (s i : Int) (w : World) (hT : Tab w) (hs : 0 ≤ s ∧ s ≤ 999) (h2 : 0 ≤ i ∧ i ≤ 7) :
    Calls Tryd.prog 83 #[.int .i64 s, .int .i64 i] w fun r w' => ∃ pa pc, r = .returned (.slice pa (pubL s i).length pc) ∧ OwnM w' w.heap.size (.slice pa (pubL s i).length pc) (pubL s i) ∧ Below w.heap.size w w' := by
  obtain ⟨i0, hi0, hz0, hz1, hz2⟩ := info_parts info64
  refine (callsIn_wide (n := 5)).1 ?_
  refine callsIn_of_wp_marks Tryd.func83 rfl trivial ?_ rfl
  simp only [Tryd.ntmps83, List.size_toArray, List.length_cons, List.length_nil, Nat.reduceAdd, Nat.reduceSub, Array.replicate_succ, Array.replicate_zero, List.push_toArray, List.append_toArray, List.nil_append, List.cons_append]
  gi_wp2
  obtain ⟨B, hB⟩ : ∃ B, B = w.heap.size := ⟨_, rfl⟩
  have aS : ∀ o : Obj, Below w.heap.size w (w.alloc o) := fun o => (Below.refl _ _).alloc (Nat.le_refl _) o
  obtain ⟨W0, hW0⟩ : ∃ W0, W0 = (((w.alloc (.cells #[.int .i64 s] 2)).alloc (.cells #[.int .i64 i] 2)).alloc (.cells #[.slice none 0 0] 44)) := ⟨_, rfl⟩
  have zW0 : W0.heap.size = w.heap.size + 3 := by rw [hW0]; simp
  have b0 : Below w.heap.size w W0 := by rw [hW0]; exact ((aS _).alloc (by simp) _).alloc (by simp; omega) _
  have S0 : Blk W0 B #[.int .i64 s] 2 := by
    rw [hW0, hB]; exact (Blk.new w _ _).below (((Below.refl _ _).alloc (Nat.le_refl _) _).alloc (by simp) _) (by simp)
  have I0 : Blk W0 (B + 1) #[.int .i64 i] 2 := by
    have := (Blk.new (w.alloc (.cells #[.int .i64 s] 2)) #[.int .i64 i] 2).below ((Below.refl _ _).alloc (Nat.le_refl _) (.cells #[.slice none 0 0] 44)) (by simp)
    rw [World.size_alloc] at this
    rw [hW0, hB]; exact this
  have V0 : Blk W0 (B + 2) #[.slice none 0 0] 44 := by
    have := Blk.new ((w.alloc (.cells #[.int .i64 s] 2)).alloc (.cells #[.int .i64 i] 2)) #[.slice none 0 0] 44
    rw [World.size_alloc, World.size_alloc] at this
    rw [hW0, hB]; exact this
  rw [← hW0, ← hB]
  clear hW0 aS
  have WB : Hid (B = w.heap.size) := hB
  have L0 : LsS (B + 2) W0 (pubW s i []) W0 (.slice none 0 0) := ⟨V0, World.ownsRow_nil _ _ _ _, Fr.refl _ _⟩
  have TabOf : Hid (∀ Y : World, Fr (fun k => k = B + 2) W0 Y → Tab Y) := fun Y hf => hT.below (b0.trans (hf.below (B := w.heap.size) (by rintro j e; omega) (by omega))) (Nat.le_refl _)
  have BWF : Hid (∀ Y : World, Fr (fun k => k = B + 2) W0 Y → Below w.heap.size w Y) := fun Y hf => b0.trans (hf.below (B := w.heap.size) (by rintro j e; omega) (by omega))
  have zB : W0.heap.size = B + 3 := by omega
  have LN : Hid (∀ bs, (pubW s i bs).length = 2 * bs.length) := fun bs => pubW_len s i bs
  have SN : Hid (∀ (bs : List Nat) (b : Nat), pubW s i (bs ++ [b]) = pubW s i bs ++ [opnV (secV s i b 0), opnV (secV s i b 1)]) := fun bs b => pubW_snoc s i bs b
  have EN : Hid (pubW s i ((upB 16 (Nat.le_refl _)).map (fun x => x.1)) = pubL s i) := by show _ = _; rw [upB_val]; rfl
  clear hB zW0 hT
  refine wpIn_rangeFunc_ownH (F := Fence.wide) rfl (by decide) (gf := 75) (lb := #[]) rfl trivial (enters_of Tryd.func75 (by kernel_rfl) rfl)
    (bits_stops 4 W0) (fun _ _ => trivial) (fun _ _ _ _ _ _ _ _ => trivial) (Below.refl _ _) (fun _ => rfl)
    (fun pre X => ∃ av, LsS (B + 2) W0 (pubW s i (pre.map (fun x => x.1))) X av) (fun _ _ _ => False)
    (fun st X Y row hs hg hr => by obtain ⟨av, h⟩ := hs; exact ⟨av, h.kept (by omega) hg hr⟩) (fun _ _ _ _ _ hs _ _ => hs) ⟨.slice none 0 0, L0⟩
    (fun x0 b' X => b' = actP s i B x0.1 (.int .i64 x0.1) (.int .i64 x0.1))
    (fun x0 b' st X Y row hs hg hr => hs) ?assign ?body ?done ?stop
  case assign =>
    rintro l pre x0 X K' ⟨av, hi⟩ hK'
    unfold encB
    gi_wp2
    exact hK' _ _ ((KeepsOthers.refl X).from _) trivial ⟨av, hi⟩ rfl
  case body =>
    rintro l pre ⟨k, hk⟩ b' X hl' - ⟨av, hi⟩ rfl hlt
    dsimp only
    have hk' : (k : Int) < 16 := by omega
    have s0 := ((S0.fr hi.fr (by omega)).cell 0)
    have i1 := ((I0.fr hi.fr (by omega)).cell 0)
    simp at s0 i1
    have TX : Hid (∀ Y : World, Below X.heap.size X Y → Tab Y) := fun Y hb => (TabOf.out X hi.fr).below hb (Nat.le_refl _)
    have SO := secretsOf_any s i k X (TX.out X (Below.refl _ _)) hs h2 (by omega)
    have HSN : Hid (_) := SN.out (pre.map (fun x => x.1)) k
    have q0 := secV_bd s i k 0
    have q1 := secV_bd s i k 1
    generalize secV s i k 0 = x0 at *
    generalize secV s i k 1 = x1 at *
    have hu : (pubW s i (pre.map (fun x => x.1))).length ≤ 600 := by have := LN.out (pre.map (fun x => x.1)); rw [List.length_map] at this; omega
    generalize hus : pubW s i (pre.map (fun x => x.1)) = us at *
    have SP : Hid (∀ Y : World, Below X.heap.size X Y → Calls Tryd.prog 78 #[.agg #[.int .i64 x0, .int .i64 x1]] Y fun r w' => r = .returned (.agg #[.int .i64 (opnV x0), .int .i64 (opnV x1)]) ∧ Below Y.heap.size Y w') := fun Y hb => sidesPublic_any x0 x1 Y (TX.out Y hb) q0 q1
    generalize opnV x0 = y0 at *
    generalize opnV x1 = y1 at *
    unfold actP
    gi_wp2_with fail
    refine ⟨trivial, CallsIn.mono (callsIn_round (callsIn_wide.2 (SO))) ?_⟩
    rintro r u1 ⟨rfl, hb1⟩
    gi_wp2_with fail
    refine ⟨trivial, CallsIn.mono (callsIn_round (callsIn_wide.2 (SP.out _ hb1))) ?_⟩
    rintro r u2 ⟨rfl, hb2⟩
    have B2 := hb1.trans (hb2.mono hb1.size)
    clear hb1 hb2
    gi_wp2_with fail
    obtain ⟨Bx, hBx⟩ : ∃ Bx, Bx = u2.heap.size := ⟨_, rfl⟩
    obtain ⟨Y, hY⟩ : ∃ Y, Y = u2.alloc (.cells #[.int .i64 y0, .int .i64 y1] 110) := ⟨_, rfl⟩
    have bY : Blk Y Bx #[.int .i64 y0, .int .i64 y1] 110 := by rw [hY, hBx]; exact Blk.new _ _ _
    have D0 : Below X.heap.size X Y := by rw [hY]; exact B2.alloc B2.size _
    have zX : W0.heap.size ≤ X.heap.size := hi.fr.size
    have nBx : X.heap.size ≤ Bx := by rw [hBx]; exact B2.size
    simp only [← hY, ← hBx]
    clear hY hBx B2 s0 i1 SO SP TX q0 q1
    have D : Below X.heap.size X Y.drew := D0.drew
    have FIN : ∀ (Z : World) (av2 : Value), LsS (B + 2) W0 (us ++ [y0, y1]) Z av2 → Fr (fun j => j = B + 2 ∨ av.ownBlock = some j) X Z → KeepsFrom W0.heap.size X Z ∧ True ∧ ∃ av, LsS (B + 2) W0 (pubW s i ((pre ++ [(⟨k, hk⟩ : Bt)]).map (fun x => x.1))) Z av := fun Z av2 h hf => by
      refine ⟨hi.pays (by omega) hf, trivial, av2, ?_⟩
      have e1 : pubW s i ((pre ++ [(⟨k, hk⟩ : Bt)]).map (fun x => x.1)) = us ++ [y0, y1] := by rw [List.map_append, List.map_singleton]; exact HSN.out
      rw [e1]
      exact h
    clear HSN
    refine wpIn_round_held (S := fun u => Blk u Bx #[.int .i64 y0, .int .i64 y1] 110) (by kernel_rfl) (by kernel_rfl) (fun ⟨_, _, h⟩ => h) (bY.below (Below.refl _ _).drew bY.lt) (fun hs => ?_)
    refine take_at (i := 1) (d := some 15) (v := ?mv1) rfl rfl (by kernel_rfl) (by kernel_rfl) (by kernel_rfl) (fun _ _ _ h => h) (Or.inl ⟨by rfl, ?my1⟩) hs ?mg1
    case my1 => (intro z hSz; skip; go_simp; (try with_reducible rfl))
    try simp only [Act.put, List.setIfInBounds_toArray, List.set_cons_zero, List.set_cons_succ]
    refine wpAnyH_ready (rs := [0]) (by kernel_rfl) (by simp) ?_
    refine AllReadyH.cons rfl (fun K' hK' => ?_) AllReadyH.nil
    have v0 := (hi.below D).v.cell 0
    simp at v0
    go_simp
    refine hK'.out _ _ hs (fun hs => ?_)
    clear hK' K'
    try simp only [Act.put, List.setIfInBounds_toArray, List.set_cons_zero, List.set_cons_succ]
    refine wpAnyH_ready (rs := [2]) (by kernel_rfl) (by simp) ?_
    refine AllReadyH.cons rfl (fun K' hK' => ?_) AllReadyH.nil
    refine step_app2 rfl _ _ 44 rfl W0.heap.size 2 i0 Tryd.underlying44 hi0 hz0 hz1 hz2 av us.length (us.map (.int .i64)) rfl (hi.below D).arow Bx 2 y0 y1 rfl (by have := hs.cell 0; simpa using this) (by have := hs.cell 1; simpa using this) (by omega) (Nat.le_trans zX D.size) ?_
    intro g' c' w3 hown hgrow hnew
    obtain ⟨E1, E2, E3⟩ := hi.appendV (ys := [y0, y1]) (by omega) D hown hgrow
    have nB : av.ownBlock ≠ some Bx := fun e => by have := (hi.arow.lt Bx e).2; omega
    refine hK'.out _ _ (hs.fr (M := fun j => av.ownBlock = some j) (.of_grown hgrow (fun j e => e)) nB) (fun hs => ?_)
    clear hK' K'
    try simp only [Act.put, List.setIfInBounds_toArray, List.set_cons_zero, List.set_cons_succ]
    have v3 := E3.cell 0
    have v4 := E3.frozen 0
    simp at v3
    refine wpAnyH_ready (rs := [3]) (by kernel_rfl) (by simp) ?_
    refine AllReadyH.cons rfl (fun K' hK' => ?_) AllReadyH.nil
    go_simp
    refine hK'.out _ _ (hs.fr (M := fun j => j = B + 2) (by refine Fr.setCell (Fr.refl _ _) _ _ ?_; rfl) (show Bx ≠ B + 2 by omega)) (fun hs => ?_)
    clear hK' K'
    try simp only [Act.put, List.setIfInBounds_toArray, List.set_cons_zero, List.set_cons_succ]
    refine wpAnyH_done (by kernel_rfl) ?_ _
    exact FIN _ _ E1 E2
  case done =>
    rintro D ys Y hD rfl ⟨av, hi⟩ hKD
    rw [EN.out] at hi
    have v0 := hi.v.cell 0
    simp at v0
    obtain ⟨pa, pc, rfl⟩ := own_row_shape hi.arow
    have AR : Hid (OwnM Y W0.heap.size (.slice pa (pubL s i).length pc) (pubL s i)) := hi.arow
    have FR : Hid (Fr (fun k => k = B + 2) W0 Y) := hi.fr
    clear hi
    gi_wp2_with fail
    have hD0 : w.heap.size ≤ D := by have := WB.out; omega
    refine leaves_marks (base := w.heap.size) _ _ ⟨D, rfl, hD0, hKD, by simp, trivial⟩ ?_
    intro W' hf
    have hfm : Fr (fun k => k = D) Y W' := hf.mono (fun k ⟨d, hd, e⟩ => by simp at hd; subst hd; simpa using e.symm)
    have B1 : Below w.heap.size w W' := (BWF.out _ FR.out).trans (hfm.below (fun k e => by omega) (by have := FR.out.size; have := WB.out; omega))
    have AR2 : OwnM W' W0.heap.size (.slice pa (pubL s i).length pc) (pubL s i) := own_fr AR.out hfm (fun g e1 e2 => by
      obtain ⟨cs, hc⟩ := own_cells AR.out e1
      rw [e2, hKD] at hc
      cases hc)
    refine ⟨.slice pa (pubL s i).length pc, by simp [results, Tryd.results83, go_sem], pa, pc, rfl, own_mono AR2 (by have := WB.out; omega), B1⟩
  case stop =>
    rintro D c pre X _ _ h _
    exact h.elim

end Go.Proofs.YtffidkoejlebeaaDoor
