/- Contracts of the program's chapter 8: what opens a signature. -/
import Derived.Test.YtffidkoejlebeaaGreatDoorKyT
namespace Go.Proofs.YtffidkoejlebeaaGreatDoor
open Go.ChangeShapes Go.WideShapes Go.ChangeAt Go.RowKit
set_option maxRecDepth 100000
set_option linter.unusedVariables false
set_option linter.unusedSimpArgs false

attribute [local go_sem] Oper.semAt_some

theorem opAt_two (x : Int) (sh ot : List Int) (b : Nat) : opAt x sh ot b = [if bitV x b = 0 then opnV (sh.getD b 0) else ot.getD b 0, if bitV x b = 0 then ot.getD b 0 else opnV (sh.getD b 0)] := by
  unfold opAt
  split <;> rfl
theorem abs_w {n : Nat} {X Y : World} (h : Below n X Y) : ∃ Z, Z = Y := ⟨_, rfl⟩
theorem abs_b {W : World} {p : Nat} {cs : Array Value} {T : Nat} (h : Blk W p cs T) : ∃ q, q = p := ⟨_, rfl⟩
theorem blk_al {n : Nat} {X Y : World} {cs : Array Value} {T : Nat} (h : Below n X (Y.alloc (.cells cs T))) : Blk (Y.alloc (.cells cs T)) Y.heap.size cs T := Blk.new _ _ _
theorem set_two {n p : Nat} {X Y : World} {v0 v1 x y : Value} {T : Nat} (D : Below n X Y) (h : Blk Y p #[v0, v1] T) (hp : n ≤ p) : Below n X ((Y.setCell ⟨p, 0, none⟩ x).setCell ⟨p, 1, none⟩ y) ∧ Blk ((Y.setCell ⟨p, 0, none⟩ x).setCell ⟨p, 1, none⟩ y) p #[x, y] T ∧ Fr (fun k => k = p) Y ((Y.setCell ⟨p, 0, none⟩ x).setCell ⟨p, 1, none⟩ y) :=
  ⟨(D.setCell hp _).setCell hp _, by have := (h.set 0 x).set 1 y; simpa using this, Fr.setCell (Fr.setCell (Fr.refl (fun k => k = p) Y) ⟨p, 0, none⟩ x rfl) ⟨p, 1, none⟩ y rfl⟩

/-- The activation of a round. -/
def actO (i x : Int) (a b : Option Addr) (ca cb B V : Nat) (sh ot : List Int) (x7 x19 : Value) : Act :=
  { tmps := #[.agg #[.int .i64 i, .slice a sh.length ca, .slice b ot.length cb], .int .i64 x, .pointer (some ⟨B, 0, none⟩), .pointer (some ⟨B + 1, 0, none⟩), .pointer (some ⟨B + 1 + 1, 0, none⟩), .int .i64 0, .pointer (some ⟨V, 0, none⟩), x7, undef, .agg #[.int .i64 i, .slice a sh.length ca, .slice b ot.length cb], .int .i64 0, .int .i64 0, .bool false, undef, undef, .int .i64 x, .bool true, .bool false, undef, x19, undef, undef, undef, undef, undef, undef, undef, undef, undef, undef, undef], defers := [] }

set_option maxHeartbeats 4000000 in
theorem implOpenSign_ok (i x : Int) (a b : Option Addr) (ca cb : Nat) (sh ot : List Int) (w : World) (hT : Tab w) (hs : Has w .i64 a sh.length sh) (ho : Has w .i64 b ot.length ot) (h1 : sh.length ≤ 1048576) (h2 : ot.length ≤ 1048576) (hf : sgF i sh ot = 0) (hx : 0 ≤ x ∧ x ≤ 65520) :
    Calls Tryz.prog 82 #[.agg #[.int .i64 i, .slice a sh.length ca, .slice b ot.length cb], .int .i64 x] w fun r w' => r = .returned (.agg #[.int .i64 0, .int .i64 (keyS (opW x sh ot (List.range 16)))]) ∧ Below w.heap.size w w' := by
  obtain ⟨i0, hi0, hz0, hz1, hz2⟩ := info_parts info64
  obtain ⟨_, ls, lo, as', ao⟩ := sgF_zero hf
  have LS : Hid (sh.length = 16) := ls
  have LO : Hid (ot.length = 16) := lo
  clear ls lo
  obtain ⟨B, hB⟩ : ∃ B, B = w.heap.size := ⟨_, rfl⟩
  obtain ⟨E, hE⟩ : ∃ E, E = ((w.alloc (.cells #[.int .i64 i, .slice a sh.length ca, .slice b ot.length cb] 36)).alloc (.cells #[.int .i64 x] 2)).alloc (.cells #[.int .i64 0, .int .i64 0] 45) := ⟨_, rfl⟩
  have zE : E.heap.size = w.heap.size + 3 := by rw [hE]; simp
  have B0 : Below w.heap.size w E := by rw [hE]; exact (((Below.refl _ _).alloc (Nat.le_refl _) _).alloc (by simp) _).alloc (by simp; omega) _
  have GE : Blk E B #[.int .i64 i, .slice a sh.length ca, .slice b ot.length cb] 36 := by rw [hE, hB]; exact (Blk.new w _ _).below (((Below.refl _ _).alloc (Nat.le_refl _) _).alloc (by simp) _) (by simp)
  have XE : Blk E (B + 1) #[.int .i64 x] 2 := by
    have := (Blk.new (w.alloc (.cells #[.int .i64 i, .slice a sh.length ca, .slice b ot.length cb] 36)) #[.int .i64 x] 2).below ((Below.refl _ _).alloc (Nat.le_refl _) (.cells #[.int .i64 0, .int .i64 0] 45)) (by simp)
    rw [World.size_alloc] at this
    rw [hE, hB]; exact this
  have RE : Blk E (B + 2) #[.int .i64 0, .int .i64 0] 45 := by
    have := Blk.new ((w.alloc (.cells #[.int .i64 i, .slice a sh.length ca, .slice b ot.length cb] 36)).alloc (.cells #[.int .i64 x] 2)) #[.int .i64 0, .int .i64 0] 45
    rw [World.size_alloc, World.size_alloc] at this
    rw [hE, hB]; exact this
  have g0 : E.cell? ⟨B, 0, none⟩ = some (.int .i64 i) := (GE.cell 0).trans rfl
  have g1 : E.cell? ⟨B, 1, none⟩ = some (.slice a sh.length ca) := (GE.cell 1).trans rfl
  have g2 : E.cell? ⟨B, 2, none⟩ = some (.slice b ot.length cb) := (GE.cell 2).trans rfl
  have SF := implSignFault_any i a b ca cb sh ot E (hs.below B0 (Nat.le_refl _)) (ho.below B0 (Nat.le_refl _)) h1 h2
  rw [hf] at SF
  have hdx : decide (0 ≤ x ∧ x ≤ 65520) = true := by simpa using hx
  refine (callsIn_wide (n := 5)).1 ?_
  refine callsIn_of_wp_marks Tryz.func82 rfl trivial ?_ rfl
  simp only [Tryz.ntmps82, List.size_toArray, List.length_cons, List.length_nil, Nat.reduceAdd, Nat.reduceSub, Array.replicate_succ, Array.replicate_zero, List.push_toArray, List.append_toArray, List.nil_append, List.cons_append]
  have HB : Hid (B = w.heap.size) := hB
  gi_wp2_with fail
  simp only [← hE]
  rw [← hB]
  clear hE hB
  refine ⟨trivial, CallsIn.mono (callsIn_wide.2 (SF)) ?_⟩
  rintro r u1 ⟨rfl, hb1⟩
  have G1 := GE.below hb1 GE.lt
  have X1 := XE.below hb1 XE.lt
  have R1 := RE.below hb1 RE.lt
  have B1 := B0.trans (hb1.mono B0.size)
  have q1 : u1.cell? ⟨B + 1, 0, none⟩ = some (.int .i64 x) := (X1.cell 0).trans rfl
  clear GE XE RE hb1 SF g0 g1 g2
  gi_wp2_with fail
  refine ⟨trivial, CallsIn.mono (callsIn_wide.2 (isSum_any x _)) ?_⟩
  rintro r u ⟨rfl, hu⟩; have hu2 := hu.symm; subst hu2; clear hu
  rw [hdx]
  gi_wp2
  obtain ⟨V, hV⟩ : ∃ V, V = u1.heap.size := ⟨_, rfl⟩
  obtain ⟨W0, hW0⟩ : ∃ W0, W0 = u1.alloc (.cells #[.slice none 0 0] 34) := ⟨_, rfl⟩
  rw [← hW0, ← hV]
  have zW0 : W0.heap.size = V + 1 := by rw [hW0, hV]; simp
  have V0 : Blk W0 V #[.slice none 0 0] 34 := by rw [hW0, hV]; exact Blk.new _ _ _
  have b1 : Below u1.heap.size u1 W0 := by rw [hW0]; exact (Below.refl _ _).alloc (Nat.le_refl _) _
  have G0 := G1.below b1 G1.lt
  have X0 := X1.below b1 X1.lt
  have R0 := R1.below b1 R1.lt
  have b0 : Below w.heap.size w W0 := B1.trans (b1.mono B1.size)
  have hBV : B + 3 ≤ V := by rw [hV]; have := R1.lt; omega
  have hVw : w.heap.size ≤ V := by have := HB.out; omega
  clear hW0 hV G1 X1 R1 b1 q1
  have L0 : LsS V W0 (opW x sh ot []) W0 (.slice none 0 0) := ⟨V0, World.ownsRow_nil _ _ _ _, Fr.refl _ _⟩
  have BWF : Hid (∀ Y : World, Fr (fun k => k = V) W0 Y → Below w.heap.size w Y) := fun Y hf => b0.trans (hf.below (B := w.heap.size) (by rintro j e; omega) (by omega))
  have TabOf : Hid (∀ Y : World, Fr (fun k => k = V) W0 Y → Tab Y) := fun Y hf => hT.below (BWF.out Y hf) (Nat.le_refl _)
  have LN : Hid (∀ bs, (opW x sh ot bs).length = 2 * bs.length) := fun bs => opW_len x sh ot bs
  have SN : Hid (∀ (bs : List Nat) (b : Nat), opW x sh ot (bs ++ [b]) = opW x sh ot bs ++ [if bitV x b = 0 then opnV (sh.getD b 0) else ot.getD b 0, if bitV x b = 0 then ot.getD b 0 else opnV (sh.getD b 0)]) := fun bs b => by rw [opW_snoc, opAt_two]
  have EN : Hid (opW x sh ot ((upB 16 (Nat.le_refl _)).map (fun x => x.1)) = opW x sh ot (List.range 16)) := by show _ = _; rw [upB_val]
  refine wpIn_rangeFunc_ownH (F := Fence.wide) rfl (by decide) (gf := 88) (lb := #[]) rfl trivial (enters_of Tryz.func88 (by kernel_rfl) rfl)
    (bits_stops 4 W0) (fun _ _ => trivial) (fun _ _ _ _ _ _ _ _ => trivial) (Below.refl _ _) (fun _ => rfl)
    (fun pre X => ∃ av, LsS V W0 (opW x sh ot (pre.map (fun x => x.1))) X av) (fun _ _ _ => False)
    (fun st X Y row hs hg hr => by obtain ⟨av, h⟩ := hs; exact ⟨av, h.kept (by omega) hg hr⟩) (fun _ _ _ _ _ hs _ _ => hs) ⟨.slice none 0 0, L0⟩
    (fun x0 b' X => b' = actO i x a b ca cb B V sh ot (.int .i64 x0.1) (.int .i64 x0.1))
    (fun x0 b' st X Y row hs hg hr => hs) ?assign ?body ?done ?stop
  case assign =>
    rintro l pre x0 X K' ⟨av, hi⟩ hK'
    unfold encB
    gi_wp2
    exact hK' _ _ ((KeepsOthers.refl X).from _) trivial ⟨av, hi⟩ rfl
  case body =>
    rintro l pre ⟨k, hk⟩ b' X hl' - ⟨av, hi⟩ rfl hlt
    dsimp only
    have hk' : (k : Int) < 16 := by omega
    have GX := G0.fr hi.fr (by omega)
    have XX := X0.fr hi.fr (by omega)
    have bX := BWF.out X hi.fr
    obtain ⟨sb, so, rfl⟩ : ∃ p off, a = some ⟨p, off, none⟩ := by
      rcases hs.2.2 with h0 | ⟨p, off, e, _⟩
      · have := LS.out; omega
      · exact ⟨p, off, e⟩
    obtain ⟨ob, oo, rfl⟩ : ∃ p off, b = some ⟨p, off, none⟩ := by
      rcases ho.2.2 with h0 | ⟨p, off, e, _⟩
      · have := LO.out; omega
      · exact ⟨p, off, e⟩
    have SD : ∀ u : World, Calls Tryz.prog 90 #[.int .i64 x, .int .i64 k] u fun r w' => r = .returned (.int .i64 (bitV x k)) ∧ w' = u := fun u => sideOf_any x k u hx (by omega)
    have HSN : Hid (_) := SN.out (pre.map (fun x => x.1)) k
    have OPN : Hid (∀ Y : World, Below X.heap.size X Y → Calls Tryz.prog 103 #[.agg #[.int .i64 i, .slice (some ⟨sb, so, none⟩) sh.length ca, .slice (some ⟨ob, oo, none⟩) ot.length cb], .int .i64 k, .int .i64 (bitV x k)] Y fun r w' => r = .returned (.agg #[.int .i64 (if bitV x k = 0 then opnV (sh.getD k 0) else ot.getD k 0), .int .i64 (if bitV x k = 0 then ot.getD k 0 else opnV (sh.getD k 0))]) ∧ Below Y.heap.size Y w') := fun Y hb => opened_any i (bitV x k) k sb so ob oo ca cb sh ot Y ((TabOf.out X hi.fr).below hb (Nat.le_refl _)) (by omega) (bitV_01 x k) LS.out LO.out ((hs.below bX (Nat.le_refl _)).below hb (Nat.le_refl _)) ((ho.below bX (Nat.le_refl _)).below hb (Nat.le_refl _)) as'
    have hu : (opW x sh ot (pre.map (fun x => x.1))).length ≤ 600 := by have := LN.out (pre.map (fun x => x.1)); rw [List.length_map] at this; omega
    generalize hus : opW x sh ot (pre.map (fun x => x.1)) = us at *
    generalize (if bitV x k = 0 then opnV (sh.getD k 0) else ot.getD k 0) = y0 at *
    generalize (if bitV x k = 0 then ot.getD k 0 else opnV (sh.getD k 0)) = y1 at *
    generalize bitV x k = d at *
    have FIN : ∀ (Z : World) (av2 : Value), LsS V W0 (us ++ [y0, y1]) Z av2 → Fr (fun j => j = V ∨ av.ownBlock = some j) X Z → KeepsFrom W0.heap.size X Z ∧ True ∧ ∃ av, LsS V W0 (opW x sh ot ((pre ++ [(⟨k, hk⟩ : Bt)]).map (fun x => x.1))) Z av := fun Z av2 h hf => by
      refine ⟨hi.pays (by omega) hf, trivial, av2, ?_⟩
      have e1 : opW x sh ot ((pre ++ [(⟨k, hk⟩ : Bt)]).map (fun x => x.1)) = us ++ [y0, y1] := by rw [List.map_append, List.map_singleton]; exact HSN.out
      rw [e1]
      exact h
    have zX : W0.heap.size ≤ X.heap.size := hi.fr.size
    have D : Below X.heap.size X X.drew := (Below.refl _ _).drew
    clear HSN hs ho hT bX as' ao hf
    unfold actO
    gi_wp2_with fail
    refine wpIn_round_held (S := fun u => Blk u B #[.int .i64 i, .slice (some ⟨sb, so, none⟩) sh.length ca, .slice (some ⟨ob, oo, none⟩) ot.length cb] 36 ∧ Blk u (B + 1) #[.int .i64 x] 2) (by kernel_rfl) (by kernel_rfl) (fun ⟨_, _, h⟩ => h) ⟨GX.below (Below.refl _ _).drew GX.lt, XX.below (Below.refl _ _).drew XX.lt⟩ (fun hs => ?_)
    obtain ⟨XD, hXD⟩ := abs_w D
    rw [← hXD] at D hs
    simp only [← hXD]
    clear hXD
    refine take_at (i := 0) (d := some 20) (v := ?mv1) rfl rfl (by kernel_rfl) (by kernel_rfl) (by kernel_rfl) (fun _ _ _ h => h) (Or.inl ⟨by rfl, ?my1⟩) hs ?mg1
    case my1 => (intro z hSz; (obtain ⟨hz1, hz2⟩ := hSz; have e0 := hz1.cell 0; have e1 := hz1.cell 1; have e2 := hz1.cell 2; have e3 := hz2.cell 0; simp at e0 e1 e2 e3); go_simp; (try with_reducible rfl))
    try simp only [Act.put, List.setIfInBounds_toArray, List.set_cons_zero, List.set_cons_succ]
    refine take_at (i := 1) (d := some 21) (v := ?mv2) rfl rfl (by kernel_rfl) (by kernel_rfl) (by kernel_rfl) (fun _ _ _ h => h) (Or.inl ⟨by rfl, ?my2⟩) hs ?mg2
    case my2 => (intro z hSz; (obtain ⟨hz1, hz2⟩ := hSz; have e0 := hz1.cell 0; have e1 := hz1.cell 1; have e2 := hz1.cell 2; have e3 := hz2.cell 0; simp at e0 e1 e2 e3); go_simp; (try with_reducible rfl))
    try simp only [Act.put, List.setIfInBounds_toArray, List.set_cons_zero, List.set_cons_succ]
    refine take_at (i := 2) (d := some 22) (v := ?mv3) rfl rfl (by kernel_rfl) (by kernel_rfl) (by kernel_rfl) (fun _ _ _ h => h) (Or.inl ⟨by rfl, ?my3⟩) hs ?mg3
    case my3 => (intro z hSz; (obtain ⟨hz1, hz2⟩ := hSz; have e0 := hz1.cell 0; have e1 := hz1.cell 1; have e2 := hz1.cell 2; have e3 := hz2.cell 0; simp at e0 e1 e2 e3); go_simp; (try with_reducible rfl))
    try simp only [Act.put, List.setIfInBounds_toArray, List.set_cons_zero, List.set_cons_succ]
    refine take_at (i := 3) (d := some 23) (v := ?mv4) rfl rfl (by kernel_rfl) (by kernel_rfl) (by kernel_rfl) (fun _ _ _ h => h) (Or.inl ⟨by rfl, ?my4⟩) hs ?mg4
    case my4 => (intro z hSz; (obtain ⟨hz1, hz2⟩ := hSz; have e0 := hz1.cell 0; have e1 := hz1.cell 1; have e2 := hz1.cell 2; have e3 := hz2.cell 0; simp at e0 e1 e2 e3); go_simp; (try with_reducible rfl))
    try simp only [Act.put, List.setIfInBounds_toArray, List.set_cons_zero, List.set_cons_succ]
    refine wpAnyH_ready (rs := [4, 6]) (by kernel_rfl) (by simp) ?_
    refine AllReadyH.cons rfl (fun K' hK' => ?_) (AllReadyH.cons rfl (fun K' hK' => ?_) AllReadyH.nil)
    · go_simp
      refine (SD _).mono ?_
      rintro _ z ⟨rfl, hz⟩
      subst hz
      refine hK'.out _ _ hs (fun hs => ?_)
      clear hK' K'
      try simp only [Act.put, List.setIfInBounds_toArray, List.set_cons_zero, List.set_cons_succ]
      refine wpAnyH_ready (rs := [5, 6]) (by kernel_rfl) (by simp) ?_
      refine AllReadyH.cons rfl (fun K' hK' => ?_) (AllReadyH.cons rfl (fun K' hK' => ?_) AllReadyH.nil)
      · go_simp
        refine (OPN.out _ D).mono ?_
        rintro _ u3 ⟨rfl, hb3⟩
        have D1 := D.trans (hb3.mono D.size)
        refine hK'.out _ _ ⟨hs.1.below hb3 hs.1.lt, hs.2.below hb3 hs.2.lt⟩ (fun hs => ?_)
        clear hK' K'
        try simp only [Act.put, List.setIfInBounds_toArray, List.set_cons_zero, List.set_cons_succ]
        have D := D1
        (try replace PB := PB.below hb3 PB.lt)
        refine wpAnyH_ready (rs := [6]) (by kernel_rfl) (by simp) ?_
        refine AllReadyH.cons rfl (fun K' hK' => ?_) AllReadyH.nil
        have nP := D.size
        go_simp
        refine hK'.out _ _ ⟨hs.1.below ((Below.refl _ _).alloc (Nat.le_refl _) _) hs.1.lt, hs.2.below ((Below.refl _ _).alloc (Nat.le_refl _) _) hs.2.lt⟩ (fun hs => ?_)
        clear hK' K'
        try simp only [Act.put, List.setIfInBounds_toArray, List.set_cons_zero, List.set_cons_succ]
        have D := D.alloc D.size (.cells #[.int .i64 0, .int .i64 0] 120)
        have PB := blk_al D
        obtain ⟨A6, h6⟩ := abs_w D
        rw [← h6] at D PB hs
        simp only [← h6]
        clear h6
        obtain ⟨P, hP⟩ := abs_b PB
        rw [← hP] at PB nP
        simp only [← hP]
        clear hP
        refine wpAnyH_ready (rs := [7]) (by kernel_rfl) (by simp) ?_
        refine AllReadyH.cons rfl (fun K' hK' => ?_) AllReadyH.nil
        have c0 := PB.cell 0
        have c1 := PB.cell 1
        have c2 := PB.frozen 0
        have c3 := PB.frozen 1
        simp at c0 c1
        obtain ⟨D2, PB2, F2⟩ := set_two (x := .int .i64 y0) (y := .int .i64 y1) D PB nP
        go_simp
        refine hK'.out _ _ ⟨hs.1.fr F2 (fun e => absurd e (Nat.ne_of_lt (Nat.lt_of_lt_of_le GX.lt nP))), hs.2.fr F2 (fun e => absurd e (Nat.ne_of_lt (Nat.lt_of_lt_of_le XX.lt nP)))⟩ (fun hs => ?_)
        clear hK' K'
        try simp only [Act.put, List.setIfInBounds_toArray, List.set_cons_zero, List.set_cons_succ]
        refine wpAnyH_done (by kernel_rfl) ?_ _
        have D := D2
        have PB := PB2
        obtain ⟨Y, hY⟩ := abs_w D
        rw [← hY] at D PB
        clear D2 PB2 F2 c0 c1 c2 c3 hs OPN SD GX XX
        gi_wp2_with fail
        simp only [← hY]
        clear hY
        have D := D.drew
        refine wpIn_round_held (S := fun u => Blk u P #[.int .i64 y0, .int .i64 y1] 120) (by kernel_rfl) (by kernel_rfl) (fun ⟨_, _, h⟩ => h) (PB.below (Below.refl _ _).drew PB.lt) (fun hs => ?_)
        refine take_at (i := 1) (d := some 27) (v := ?mv5) rfl rfl (by kernel_rfl) (by kernel_rfl) (by kernel_rfl) (fun _ _ _ h => h) (Or.inl ⟨by rfl, ?my5⟩) hs ?mg5
        case my5 => (intro z hSz; skip; go_simp; (try with_reducible rfl))
        try simp only [Act.put, List.setIfInBounds_toArray, List.set_cons_zero, List.set_cons_succ]
        refine wpAnyH_ready (rs := [0]) (by kernel_rfl) (by simp) ?_
        refine AllReadyH.cons rfl (fun K' hK' => ?_) AllReadyH.nil
        have v0 := (hi.below D).v.cell 0
        simp at v0
        go_simp
        refine hK'.out _ _ hs (fun hs => ?_)
        clear hK' K'
        try simp only [Act.put, List.setIfInBounds_toArray, List.set_cons_zero, List.set_cons_succ]
        refine wpAnyH_ready (rs := [2]) (by kernel_rfl) (by simp) ?_
        refine AllReadyH.cons rfl (fun K' hK' => ?_) AllReadyH.nil
        refine step_app2 rfl _ _ 34 rfl W0.heap.size 2 i0 Tryz.underlying34 hi0 hz0 hz1 hz2 av us.length (us.map (.int .i64)) rfl (hi.below D).arow P 2 y0 y1 rfl (by have := hs.cell 0; simpa using this) (by have := hs.cell 1; simpa using this) (by omega) (Nat.le_trans zX D.size) ?_
        intro g' c' w3 hown hgrow hnew
        obtain ⟨E1, E2, E3⟩ := hi.appendV (ys := [y0, y1]) (by omega) D hown hgrow
        have nB : av.ownBlock ≠ some P := fun e => by have := (hi.arow.lt P e).2; omega
        refine hK'.out _ _ (hs.fr (M := fun j => av.ownBlock = some j) (.of_grown hgrow (fun j e => e)) nB) (fun hs => ?_)
        clear hK' K'
        try simp only [Act.put, List.setIfInBounds_toArray, List.set_cons_zero, List.set_cons_succ]
        have v3 := E3.cell 0
        have v4 := E3.frozen 0
        simp at v3
        refine wpAnyH_ready (rs := [3]) (by kernel_rfl) (by simp) ?_
        refine AllReadyH.cons rfl (fun K' hK' => ?_) AllReadyH.nil
        go_simp
        refine hK'.out _ _ (hs.fr (M := fun j => j = V) (by refine Fr.setCell (Fr.refl _ _) _ _ ?_; rfl) (show P ≠ V by omega)) (fun hs => ?_)
        clear hK' K'
        try simp only [Act.put, List.setIfInBounds_toArray, List.set_cons_zero, List.set_cons_succ]
        refine wpAnyH_done (by kernel_rfl) ?_ _
        exact FIN _ _ E1 E2
      · have nP := D.size
        go_simp
        refine hK'.out _ _ ⟨hs.1.below ((Below.refl _ _).alloc (Nat.le_refl _) _) hs.1.lt, hs.2.below ((Below.refl _ _).alloc (Nat.le_refl _) _) hs.2.lt⟩ (fun hs => ?_)
        clear hK' K'
        try simp only [Act.put, List.setIfInBounds_toArray, List.set_cons_zero, List.set_cons_succ]
        have D := D.alloc D.size (.cells #[.int .i64 0, .int .i64 0] 120)
        have PB := blk_al D
        obtain ⟨A6, h6⟩ := abs_w D
        rw [← h6] at D PB hs
        simp only [← h6]
        clear h6
        obtain ⟨P, hP⟩ := abs_b PB
        rw [← hP] at PB nP
        simp only [← hP]
        clear hP
        refine wpAnyH_ready (rs := [5]) (by kernel_rfl) (by simp) ?_
        refine AllReadyH.cons rfl (fun K' hK' => ?_) AllReadyH.nil
        go_simp
        refine (OPN.out _ D).mono ?_
        rintro _ u3 ⟨rfl, hb3⟩
        have D1 := D.trans (hb3.mono D.size)
        refine hK'.out _ _ ⟨hs.1.below hb3 hs.1.lt, hs.2.below hb3 hs.2.lt⟩ (fun hs => ?_)
        clear hK' K'
        try simp only [Act.put, List.setIfInBounds_toArray, List.set_cons_zero, List.set_cons_succ]
        have D := D1
        (try replace PB := PB.below hb3 PB.lt)
        refine wpAnyH_ready (rs := [7]) (by kernel_rfl) (by simp) ?_
        refine AllReadyH.cons rfl (fun K' hK' => ?_) AllReadyH.nil
        have c0 := PB.cell 0
        have c1 := PB.cell 1
        have c2 := PB.frozen 0
        have c3 := PB.frozen 1
        simp at c0 c1
        obtain ⟨D2, PB2, F2⟩ := set_two (x := .int .i64 y0) (y := .int .i64 y1) D PB nP
        go_simp
        refine hK'.out _ _ ⟨hs.1.fr F2 (fun e => absurd e (Nat.ne_of_lt (Nat.lt_of_lt_of_le GX.lt nP))), hs.2.fr F2 (fun e => absurd e (Nat.ne_of_lt (Nat.lt_of_lt_of_le XX.lt nP)))⟩ (fun hs => ?_)
        clear hK' K'
        try simp only [Act.put, List.setIfInBounds_toArray, List.set_cons_zero, List.set_cons_succ]
        refine wpAnyH_done (by kernel_rfl) ?_ _
        have D := D2
        have PB := PB2
        obtain ⟨Y, hY⟩ := abs_w D
        rw [← hY] at D PB
        clear D2 PB2 F2 c0 c1 c2 c3 hs OPN SD GX XX
        gi_wp2_with fail
        simp only [← hY]
        clear hY
        have D := D.drew
        refine wpIn_round_held (S := fun u => Blk u P #[.int .i64 y0, .int .i64 y1] 120) (by kernel_rfl) (by kernel_rfl) (fun ⟨_, _, h⟩ => h) (PB.below (Below.refl _ _).drew PB.lt) (fun hs => ?_)
        refine take_at (i := 1) (d := some 27) (v := ?mv6) rfl rfl (by kernel_rfl) (by kernel_rfl) (by kernel_rfl) (fun _ _ _ h => h) (Or.inl ⟨by rfl, ?my6⟩) hs ?mg6
        case my6 => (intro z hSz; skip; go_simp; (try with_reducible rfl))
        try simp only [Act.put, List.setIfInBounds_toArray, List.set_cons_zero, List.set_cons_succ]
        refine wpAnyH_ready (rs := [0]) (by kernel_rfl) (by simp) ?_
        refine AllReadyH.cons rfl (fun K' hK' => ?_) AllReadyH.nil
        have v0 := (hi.below D).v.cell 0
        simp at v0
        go_simp
        refine hK'.out _ _ hs (fun hs => ?_)
        clear hK' K'
        try simp only [Act.put, List.setIfInBounds_toArray, List.set_cons_zero, List.set_cons_succ]
        refine wpAnyH_ready (rs := [2]) (by kernel_rfl) (by simp) ?_
        refine AllReadyH.cons rfl (fun K' hK' => ?_) AllReadyH.nil
        refine step_app2 rfl _ _ 34 rfl W0.heap.size 2 i0 Tryz.underlying34 hi0 hz0 hz1 hz2 av us.length (us.map (.int .i64)) rfl (hi.below D).arow P 2 y0 y1 rfl (by have := hs.cell 0; simpa using this) (by have := hs.cell 1; simpa using this) (by omega) (Nat.le_trans zX D.size) ?_
        intro g' c' w3 hown hgrow hnew
        obtain ⟨E1, E2, E3⟩ := hi.appendV (ys := [y0, y1]) (by omega) D hown hgrow
        have nB : av.ownBlock ≠ some P := fun e => by have := (hi.arow.lt P e).2; omega
        refine hK'.out _ _ (hs.fr (M := fun j => av.ownBlock = some j) (.of_grown hgrow (fun j e => e)) nB) (fun hs => ?_)
        clear hK' K'
        try simp only [Act.put, List.setIfInBounds_toArray, List.set_cons_zero, List.set_cons_succ]
        have v3 := E3.cell 0
        have v4 := E3.frozen 0
        simp at v3
        refine wpAnyH_ready (rs := [3]) (by kernel_rfl) (by simp) ?_
        refine AllReadyH.cons rfl (fun K' hK' => ?_) AllReadyH.nil
        go_simp
        refine hK'.out _ _ (hs.fr (M := fun j => j = V) (by refine Fr.setCell (Fr.refl _ _) _ _ ?_; rfl) (show P ≠ V by omega)) (fun hs => ?_)
        clear hK' K'
        try simp only [Act.put, List.setIfInBounds_toArray, List.set_cons_zero, List.set_cons_succ]
        refine wpAnyH_done (by kernel_rfl) ?_ _
        exact FIN _ _ E1 E2
    · have nP := D.size
      go_simp
      refine hK'.out _ _ ⟨hs.1.below ((Below.refl _ _).alloc (Nat.le_refl _) _) hs.1.lt, hs.2.below ((Below.refl _ _).alloc (Nat.le_refl _) _) hs.2.lt⟩ (fun hs => ?_)
      clear hK' K'
      try simp only [Act.put, List.setIfInBounds_toArray, List.set_cons_zero, List.set_cons_succ]
      have D := D.alloc D.size (.cells #[.int .i64 0, .int .i64 0] 120)
      have PB := blk_al D
      obtain ⟨A6, h6⟩ := abs_w D
      rw [← h6] at D PB hs
      simp only [← h6]
      clear h6
      obtain ⟨P, hP⟩ := abs_b PB
      rw [← hP] at PB nP
      simp only [← hP]
      clear hP
      refine wpAnyH_ready (rs := [4]) (by kernel_rfl) (by simp) ?_
      refine AllReadyH.cons rfl (fun K' hK' => ?_) AllReadyH.nil
      go_simp
      refine (SD _).mono ?_
      rintro _ z ⟨rfl, hz⟩
      subst hz
      refine hK'.out _ _ hs (fun hs => ?_)
      clear hK' K'
      try simp only [Act.put, List.setIfInBounds_toArray, List.set_cons_zero, List.set_cons_succ]
      refine wpAnyH_ready (rs := [5]) (by kernel_rfl) (by simp) ?_
      refine AllReadyH.cons rfl (fun K' hK' => ?_) AllReadyH.nil
      go_simp
      refine (OPN.out _ D).mono ?_
      rintro _ u3 ⟨rfl, hb3⟩
      have D1 := D.trans (hb3.mono D.size)
      refine hK'.out _ _ ⟨hs.1.below hb3 hs.1.lt, hs.2.below hb3 hs.2.lt⟩ (fun hs => ?_)
      clear hK' K'
      try simp only [Act.put, List.setIfInBounds_toArray, List.set_cons_zero, List.set_cons_succ]
      have D := D1
      (try replace PB := PB.below hb3 PB.lt)
      refine wpAnyH_ready (rs := [7]) (by kernel_rfl) (by simp) ?_
      refine AllReadyH.cons rfl (fun K' hK' => ?_) AllReadyH.nil
      have c0 := PB.cell 0
      have c1 := PB.cell 1
      have c2 := PB.frozen 0
      have c3 := PB.frozen 1
      simp at c0 c1
      obtain ⟨D2, PB2, F2⟩ := set_two (x := .int .i64 y0) (y := .int .i64 y1) D PB nP
      go_simp
      refine hK'.out _ _ ⟨hs.1.fr F2 (fun e => absurd e (Nat.ne_of_lt (Nat.lt_of_lt_of_le GX.lt nP))), hs.2.fr F2 (fun e => absurd e (Nat.ne_of_lt (Nat.lt_of_lt_of_le XX.lt nP)))⟩ (fun hs => ?_)
      clear hK' K'
      try simp only [Act.put, List.setIfInBounds_toArray, List.set_cons_zero, List.set_cons_succ]
      refine wpAnyH_done (by kernel_rfl) ?_ _
      have D := D2
      have PB := PB2
      obtain ⟨Y, hY⟩ := abs_w D
      rw [← hY] at D PB
      clear D2 PB2 F2 c0 c1 c2 c3 hs OPN SD GX XX
      gi_wp2_with fail
      simp only [← hY]
      clear hY
      have D := D.drew
      refine wpIn_round_held (S := fun u => Blk u P #[.int .i64 y0, .int .i64 y1] 120) (by kernel_rfl) (by kernel_rfl) (fun ⟨_, _, h⟩ => h) (PB.below (Below.refl _ _).drew PB.lt) (fun hs => ?_)
      refine take_at (i := 1) (d := some 27) (v := ?mv7) rfl rfl (by kernel_rfl) (by kernel_rfl) (by kernel_rfl) (fun _ _ _ h => h) (Or.inl ⟨by rfl, ?my7⟩) hs ?mg7
      case my7 => (intro z hSz; skip; go_simp; (try with_reducible rfl))
      try simp only [Act.put, List.setIfInBounds_toArray, List.set_cons_zero, List.set_cons_succ]
      refine wpAnyH_ready (rs := [0]) (by kernel_rfl) (by simp) ?_
      refine AllReadyH.cons rfl (fun K' hK' => ?_) AllReadyH.nil
      have v0 := (hi.below D).v.cell 0
      simp at v0
      go_simp
      refine hK'.out _ _ hs (fun hs => ?_)
      clear hK' K'
      try simp only [Act.put, List.setIfInBounds_toArray, List.set_cons_zero, List.set_cons_succ]
      refine wpAnyH_ready (rs := [2]) (by kernel_rfl) (by simp) ?_
      refine AllReadyH.cons rfl (fun K' hK' => ?_) AllReadyH.nil
      refine step_app2 rfl _ _ 34 rfl W0.heap.size 2 i0 Tryz.underlying34 hi0 hz0 hz1 hz2 av us.length (us.map (.int .i64)) rfl (hi.below D).arow P 2 y0 y1 rfl (by have := hs.cell 0; simpa using this) (by have := hs.cell 1; simpa using this) (by omega) (Nat.le_trans zX D.size) ?_
      intro g' c' w3 hown hgrow hnew
      obtain ⟨E1, E2, E3⟩ := hi.appendV (ys := [y0, y1]) (by omega) D hown hgrow
      have nB : av.ownBlock ≠ some P := fun e => by have := (hi.arow.lt P e).2; omega
      refine hK'.out _ _ (hs.fr (M := fun j => av.ownBlock = some j) (.of_grown hgrow (fun j e => e)) nB) (fun hs => ?_)
      clear hK' K'
      try simp only [Act.put, List.setIfInBounds_toArray, List.set_cons_zero, List.set_cons_succ]
      have v3 := E3.cell 0
      have v4 := E3.frozen 0
      simp at v3
      refine wpAnyH_ready (rs := [3]) (by kernel_rfl) (by simp) ?_
      refine AllReadyH.cons rfl (fun K' hK' => ?_) AllReadyH.nil
      go_simp
      refine hK'.out _ _ (hs.fr (M := fun j => j = V) (by refine Fr.setCell (Fr.refl _ _) _ _ ?_; rfl) (show P ≠ V by omega)) (fun hs => ?_)
      clear hK' K'
      try simp only [Act.put, List.setIfInBounds_toArray, List.set_cons_zero, List.set_cons_succ]
      refine wpAnyH_done (by kernel_rfl) ?_ _
      exact FIN _ _ E1 E2
  case done =>
    rintro D ys Y hD rfl ⟨av, hi⟩ hKD
    rw [EN.out] at hi
    have v0 := hi.v.cell 0
    simp at v0
    obtain ⟨pa, pc, rfl⟩ := own_row_shape hi.arow
    have FR : Hid (Fr (fun k => k = V) W0 Y) := hi.fr
    have bY := BWF.out Y hi.fr
    have lop : (opW x sh ot (List.range 16)).length = 32 := by rw [LN.out]; simp
    have aop : allS (opW x sh ot (List.range 16)) = true := opW_all ao _
    have KS := implKeySum_any pa pc (opW x sh ot (List.range 16)) Y (TabOf.out Y hi.fr) (has_of_own hi.arow (allS_wf aop)) (by omega)
    rw [kyC_of lop aop, kyV_of lop aop] at KS
    have RY := R0.fr hi.fr (by omega)
    obtain ⟨kv, hkv⟩ : ∃ kv, keyS (opW x sh ot (List.range 16)) = kv := ⟨_, rfl⟩
    rw [hkv] at KS
    have HKV : Hid (keyS (opW x sh ot (List.range 16)) = kv) := hkv
    clear hkv
    clear hi EN SN LN hs ho hT as' ao lop aop L0 V0 G0 X0
    gi_wp2_with fail
    refine ⟨trivial, CallsIn.mono (callsIn_wide.2 (KS)) ?_⟩
    rintro r u5 ⟨rfl, hb5⟩
    have R5 := RY.below hb5 RY.lt
    have b5 := bY.trans (hb5.mono bY.size)
    have hK5 : u5.heap[D]? = some (.deferred (some [])) := (hb5.block D (Array.getElem?_eq_some_iff.1 hKD).1).trans hKD
    have k0 : u5.cell? ⟨B + 1 + 1, 0, none⟩ = some (.int .i64 0) := (R5.cell 0).trans rfl
    have k1 : u5.cell? ⟨B + 1 + 1, 1, none⟩ = some (.int .i64 0) := (R5.cell 1).trans rfl
    have f0 : u5.frozen? ⟨B + 1 + 1, 0, none⟩ = false := R5.frozen 0
    have f1 : u5.frozen? ⟨B + 1 + 1, 1, none⟩ = false := R5.frozen 1
    clear KS hb5 RY
    gi_wp2
    obtain ⟨Z, hZ⟩ : ∃ Z, Z = ((u5.setCell ⟨B + 1 + 1, 0, none⟩ (.int .i64 0)).setCell ⟨B + 1 + 1, 1, none⟩ (.int .i64 kv)) := ⟨_, rfl⟩
    have fZ : Fr (fun k => k = B + 2) u5 Z := by rw [hZ]; exact Fr.setCell (Fr.setCell (Fr.refl (fun k => k = B + 2) u5) ⟨B + 1 + 1, 0, none⟩ _ rfl) ⟨B + 1 + 1, 1, none⟩ _ rfl
    have bZ : Blk Z (B + 2) #[.int .i64 0, .int .i64 kv] 45 := by
      have h := (R5.set 0 (.int .i64 0)).set 1 (.int .i64 kv)
      rw [hZ]; simpa using h
    rw [← hZ]
    clear hZ k0 k1 f0 f1
    have hD0 : w.heap.size ≤ D := by have := HB.out; omega
    have hKZ : Z.heap[D]? = some (.deferred (some [])) := (fZ.block D (Array.getElem?_eq_some_iff.1 hK5).1 (by omega)).trans hK5
    have wZ : Below w.heap.size w Z := b5.trans (fZ.below (fun k e => by have := HB.out; omega) b5.size)
    refine leaves_marks (base := w.heap.size) _ _ ⟨D, rfl, hD0, hKZ, by simp, trivial⟩ ?_
    intro W' hf
    have hfm : Fr (fun k => k = D) Z W' := hf.mono (fun k ⟨d, hd, e⟩ => by simp at hd; subst hd; simpa using e.symm)
    have bW := bZ.fr hfm (by omega)
    have c0 : W'.cell? ⟨B + 1 + 1, 0, none⟩ = some (.int .i64 0) := (bW.cell 0).trans rfl
    have c1 : W'.cell? ⟨B + 1 + 1, 1, none⟩ = some (.int .i64 kv) := (bW.cell 1).trans rfl
    refine ⟨.agg #[.int .i64 0, .int .i64 kv], by simp [results, Tryz.results82, go_sem, c0, c1], by rw [HKV.out], ?_⟩
    exact wZ.trans (hfm.below (fun k e => by omega) (by have := wZ.size; omega))
  case stop =>
    rintro D c pre X _ _ h _
    exact h.elim

set_option maxHeartbeats 2000000 in
theorem implOpenSign_any (i x : Int) (a b : Option Addr) (ca cb : Nat) (sh ot : List Int) (w : World) (hT : Tab w) (hs : Has w .i64 a sh.length sh) (ho : Has w .i64 b ot.length ot) (h1 : sh.length ≤ 1048576) (h2 : ot.length ≤ 1048576) :
    Calls Tryz.prog 82 #[.agg #[.int .i64 i, .slice a sh.length ca, .slice b ot.length cb], .int .i64 x] w fun r w' => r = .returned (.agg #[.int .i64 (opC i sh ot x), .int .i64 (opV i sh ot x)]) ∧ Below w.heap.size w w' := by
  by_cases hf : sgF i sh ot = 0
  · by_cases hx : 0 ≤ x ∧ x ≤ 65520
    · have e : opC i sh ot x = 0 := by unfold opC; rw [if_pos hf, if_pos hx]
      rw [e, show opV i sh ot x = keyS (opW x sh ot (List.range 16)) by unfold opV; rw [if_pos e]]
      exact implOpenSign_ok i x a b ca cb sh ot w hT hs ho h1 h2 hf hx
    · have HC : Hid (opC i sh ot x = 3 ∧ opV i sh ot x = 0) := by
        have e : opC i sh ot x = 3 := by unfold opC; rw [if_pos hf, if_neg hx]
        exact ⟨e, by unfold opV; rw [if_neg (by omega)]⟩
      have hdx : decide (0 ≤ x ∧ x ≤ 65520) = false := by simp; omega
      obtain ⟨E, hE⟩ : ∃ E, E = ((w.alloc (.cells #[.int .i64 i, .slice a sh.length ca, .slice b ot.length cb] 36)).alloc (.cells #[.int .i64 x] 2)).alloc (.cells #[.int .i64 0, .int .i64 0] 45) := ⟨_, rfl⟩
      have B0 : Below w.heap.size w E := by rw [hE]; exact (((Below.refl _ _).alloc (Nat.le_refl _) _).alloc (by simp) _).alloc (by simp; omega) _
      have XE : Blk E (w.heap.size + 1) #[.int .i64 x] 2 := by
        have := (Blk.new (w.alloc (.cells #[.int .i64 i, .slice a sh.length ca, .slice b ot.length cb] 36)) #[.int .i64 x] 2).below ((Below.refl _ _).alloc (Nat.le_refl _) (.cells #[.int .i64 0, .int .i64 0] 45)) (by simp)
        rw [World.size_alloc] at this
        rw [hE]; exact this
      have RE : Blk E (w.heap.size + 1 + 1) #[.int .i64 0, .int .i64 0] 45 := by
        have := Blk.new ((w.alloc (.cells #[.int .i64 i, .slice a sh.length ca, .slice b ot.length cb] 36)).alloc (.cells #[.int .i64 x] 2)) #[.int .i64 0, .int .i64 0] 45
        rw [World.size_alloc, World.size_alloc] at this
        rw [hE]; exact this
      have SF := implSignFault_any i a b ca cb sh ot E (hs.below B0 (Nat.le_refl _)) (ho.below B0 (Nat.le_refl _)) h1 h2
      rw [hf] at SF
      clear hf hx hs ho hT
      go_enter Tryz.func82, Tryz.ntmps82
      go_wp2_with fail
      simp only [← hE]
      clear hE
      refine SF.mono ?_
      rintro r u1 ⟨rfl, hb1⟩
      have X1 := XE.below hb1 XE.lt
      have R1 := RE.below hb1 RE.lt
      have B1 := B0.trans (hb1.mono B0.size)
      have q1 : u1.cell? ⟨w.heap.size + 1, 0, none⟩ = some (.int .i64 x) := (X1.cell 0).trans rfl
      have k0 : u1.cell? ⟨w.heap.size + 1 + 1, 0, none⟩ = some (.int .i64 0) := (R1.cell 0).trans rfl
      have k1 : u1.cell? ⟨w.heap.size + 1 + 1, 1, none⟩ = some (.int .i64 0) := (R1.cell 1).trans rfl
      have f0 := R1.frozen 0
      have f1 := R1.frozen 1
      clear hb1 X1 R1 XE RE
      go_wp2_with fail
      refine (isSum_any x _).mono ?_
      rintro r u ⟨rfl, hu⟩; have hu2 := hu.symm; subst hu2; clear hu
      rw [hdx]
      go_wp2
      refine bodyPost_ret (v := .agg #[.int .i64 3, .int .i64 0]) (by simp [results, Tryz.results82, go_sem, k0, k1]) rfl ⟨by rw [HC.out.1, HC.out.2], ?_⟩
      exact set2 B1 (by show _ ≤ w.heap.size + 1 + 1; omega) (by show _ ≤ w.heap.size + 1 + 1; omega) _ _
  · have HC : Hid (opC i sh ot x = sgF i sh ot ∧ opV i sh ot x = 0) := by
      have e : opC i sh ot x = sgF i sh ot := by unfold opC; rw [if_neg hf]
      exact ⟨e, by unfold opV; rw [if_neg (by rw [e]; exact hf)]⟩
    have hc' : (sgF i sh ot != 0) = true := by simpa using hf
    obtain ⟨E, hE⟩ : ∃ E, E = ((w.alloc (.cells #[.int .i64 i, .slice a sh.length ca, .slice b ot.length cb] 36)).alloc (.cells #[.int .i64 x] 2)).alloc (.cells #[.int .i64 0, .int .i64 0] 45) := ⟨_, rfl⟩
    have B0 : Below w.heap.size w E := by rw [hE]; exact (((Below.refl _ _).alloc (Nat.le_refl _) _).alloc (by simp) _).alloc (by simp; omega) _
    have RE : Blk E (w.heap.size + 1 + 1) #[.int .i64 0, .int .i64 0] 45 := by
      have := Blk.new ((w.alloc (.cells #[.int .i64 i, .slice a sh.length ca, .slice b ot.length cb] 36)).alloc (.cells #[.int .i64 x] 2)) #[.int .i64 0, .int .i64 0] 45
      rw [World.size_alloc, World.size_alloc] at this
      rw [hE]; exact this
    have SF := implSignFault_any i a b ca cb sh ot E (hs.below B0 (Nat.le_refl _)) (ho.below B0 (Nat.le_refl _)) h1 h2
    generalize sgF i sh ot = cc at *
    clear hf hs ho hT
    go_enter Tryz.func82, Tryz.ntmps82
    go_wp2_with fail
    simp only [← hE]
    clear hE
    refine SF.mono ?_
    rintro r u1 ⟨rfl, hb1⟩
    have R1 := RE.below hb1 RE.lt
    have B1 := B0.trans (hb1.mono B0.size)
    have k0 : u1.cell? ⟨w.heap.size + 1 + 1, 0, none⟩ = some (.int .i64 0) := (R1.cell 0).trans rfl
    have k1 : u1.cell? ⟨w.heap.size + 1 + 1, 1, none⟩ = some (.int .i64 0) := (R1.cell 1).trans rfl
    have f0 := R1.frozen 0
    have f1 := R1.frozen 1
    clear hb1 R1 RE
    go_wp2
    refine bodyPost_ret (v := .agg #[.int .i64 cc, .int .i64 0]) (by simp [results, Tryz.results82, go_sem, k0, k1]) rfl ⟨by rw [HC.out.1, HC.out.2], ?_⟩
    exact set2 B1 (by show _ ≤ w.heap.size + 1 + 1; omega) (by show _ ≤ w.heap.size + 1 + 1; omega) _ _

end Go.Proofs.YtffidkoejlebeaaGreatDoor
