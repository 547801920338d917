/- Contracts: the program's climb through the levels of a log. Contracts: the program's RootOf and PathOf. -/
import Derived.Test.YtkjhcblfkpknlaaDoorLvl
import Derived.Test.YtkjhcblfkpknlaaDoorISums
import Derived.Test.YtkjhcblfkpknlaaDoorMoves
import Derived.Test.YtkjhcblfkpknlaaDoorGrowC
import Derived.Scope
namespace Go.Proofs.YtkjhcblfkpknlaaDoor
open Go.ChangeShapes Go.WideShapes Go.ChangeAt Go.RowKit
set_option linter.unusedVariables false
set_option linter.unusedSimpArgs false

attribute [local go_sem] Oper.semAt_some

theorem has_none (w : World) : Has w .u8 none ([] : List Int).length [] := ⟨rfl, by simp, .inl rfl⟩
theorem fldI1 (x y : Int) (w : World) : (Instr.field 33 (.agg #[.int .i64 x, .int .i64 y]) 1).run Tryd.prog w = .ok (.int .i64 y) w := by kernel_rfl

/-- The state between two levels. -/
structure OutS (w : World) (C : Nat) (a r : Int) (zs : List Int) (la : Option Addr) (ps : List Int) (pv : Value) (ds : List Deferred) (W : World) : Prop where
  ab : Blk W w.heap.size #[.int .i64 a] 2
  rb : Blk W (w.heap.size + 1) #[.int .i64 0, .slice none 0 0] 70
  cb : Blk W C #[.int .i64 r, pv] 70
  hC : w.heap.size + 2 ≤ C
  prow : W.ownsRow w.heap.size 2 1 pv ps.length (ps.map (.int .i64))
  np : pv.ownBlock ≠ some w.heap.size ∧ pv.ownBlock ≠ some (w.heap.size + 1) ∧ pv.ownBlock ≠ some C
  lev : Has W .i64 la zs.length zs
  nl : 0 < zs.length → ∀ ad, la = some ad → ad.block ≠ w.heap.size ∧ ad.block ≠ w.heap.size + 1 ∧ ad.block ≠ C ∧ pv.ownBlock ≠ some ad.block
  marks : Marked w.heap.size W ds
  bel : Below w.heap.size w W
/-- What is known of a level. -/
def LvOk (zs : List Int) (a r : Int) (ps : List Int) (R0 : Int) (P0 : List Int) : Prop :=
  zs.length ≤ 24 ∧ allS zs = true ∧ 0 ≤ a ∧ (a < zs.length ∨ zs.length = 0) ∧ (zs.length = 0 → r = R0) ∧ (0 < zs.length → rtM nS 11 zs = R0) ∧ ps ++ ptM nS 11 zs a = P0 ∧ P0.length ≤ 24
/-- The activation between two levels. -/
def actL (x : Option Addr) (n0 c : Nat) (a0 : Int) (N C : Nat) (la : Option Addr) (n lc : Nat) (u : Fin 9 → Value) (ds : List Deferred) : Act :=
  { tmps := #[.slice x n0 c, .int .i64 a0, undef, .pointer (some ⟨N, 0, none⟩), .pointer (some ⟨N + 1, 0, none⟩), .pointer (some ⟨C, 0, none⟩), .slice la n lc, u 0, undef, undef,
      .agg #[.int .i64 (sumC []), .int .i64 11], .int .i64 11, .agg #[.int .i64 11, .slice none 0 0], .slice x n0 c, u 1, u 2, u 3, u 4, u 5, undef, undef, undef, undef, undef, undef, undef, undef, undef, undef, undef, undef, undef, undef, undef, undef,
      undef, undef, undef, undef, undef, undef, undef, undef, undef, undef, undef, undef, undef, undef, undef, undef, undef, u 6, u 7, u 8, undef], defers := ds }

theorem Fr.drew {M : Nat → Prop} {w w' : World} (h : Fr M w w') : Fr M w w'.drew := ⟨h.os, h.tape, h.output, h.size, h.block⟩
theorem InS.setR {base C V : Nat} {W0 W : World} {pv0 pv av : Value} {r : Int} {ps us : List Int} (h : InS base C V W0 pv0 r ps us W pv av) (hC : C < W0.heap.size) (hCV : C ≠ V) (hpC : pv0.ownBlock ≠ some C) (r' : Int) :
    InS base C V W0 pv0 r' ps us (W.setCell ⟨C, 0, none⟩ (.int .i64 r')) pv av ∧ Fr (fun k => k = C) W (W.setCell ⟨C, 0, none⟩ (.int .i64 r')) := by
  have fs : Fr (fun k => k = C) W (W.setCell ⟨C, 0, none⟩ (.int .i64 r')) := by refine Fr.setCell (Fr.refl _ _) _ _ ?_; rfl
  refine ⟨⟨by have := h.c.set 0 (.int .i64 r'); simpa using this, h.v.fr fs (fun e => hCV e.symm), own_fr h.prow fs (fun g e1 e2 => ?_), own_fr h.arow fs (fun g e1 e2 => by have := (h.arow.lt g e1).1; omega), h.apart, h.old, h.fr.trans fs (fun i _ e => .inl e)⟩, fs⟩
  subst e2
  rcases h.old g e1 with h4 | h4
  · omega
  · exact hpC h4
/-- The activation of a round. -/
def actR (x : Option Addr) (n0 c : Nat) (a0 : Int) (N C V : Nat) (bl off n lc : Nat) (k : Nat) (Bx : Nat) (A1 B1 : Int) (L1 : Bool) (u6 u7 u8 : Value) : Act :=
  { tmps := #[.slice x n0 c, .int .i64 a0, undef, .pointer (some ⟨N, 0, none⟩), .pointer (some ⟨N + 1, 0, none⟩), .pointer (some ⟨C, 0, none⟩), .slice (some ⟨bl, off, none⟩) n lc, .pointer (some ⟨V, 0, none⟩), .int .i64 k, .pointer (some ⟨Bx, 0, none⟩),
      .agg #[.int .i64 (sumC []), .int .i64 11], .int .i64 11, .agg #[.int .i64 11, .slice none 0 0], .slice x n0 c, .slice (some ⟨bl, off, none⟩) n lc, .int .i64 n, .bool true, .slice (some ⟨bl, off, none⟩) n lc, .func (.func 109) #[] #[.pointer (some ⟨V + 1, 0, none⟩)], .int .i64 k, .agg #[.int .i64 A1, .int .i64 B1, .bool L1], undef, undef, undef, undef, undef, undef, undef, undef, undef, undef, undef, undef, undef, undef,
      undef, undef, undef, undef, undef, undef, undef, undef, undef, undef, undef, undef, undef, undef, undef, undef, undef, u6, u7, u8, undef], defers := [] }

set_option maxRecDepth 100000 in
set_option maxHeartbeats 4000000 in
theorem climbLeaves_any (x : Option Addr) (c : Nat) (zs : List Int) (a : Int) (w : World) (hT : Tab w) (hp : Has w .i64 x zs.length zs) (hl : zs.length ≤ 24) (hall : allS zs = true) (h0 : 0 ≤ a) (ha : a < zs.length ∨ zs.length = 0) (hc : zs.length ≤ c) (hm : c ≤ maxLen) :
    Calls Tryd.prog 59 #[.slice x zs.length c, .int .i64 a] w fun r w' => ∃ pa pc, r = .returned (.agg #[.int .i64 (rtM nS 11 zs), .slice pa (ptM nS 11 zs a).length pc]) ∧ w'.ownsRow w.heap.size 2 1 (.slice pa (ptM nS 11 zs a).length pc) (ptM nS 11 zs a).length ((ptM nS 11 zs a).map (.int .i64)) ∧ Below w.heap.size w w' := by
  obtain ⟨R0, hR0⟩ : ∃ R0, R0 = rtM nS 11 zs := ⟨_, rfl⟩
  obtain ⟨P0, hP0⟩ : ∃ P0, P0 = ptM nS 11 zs a := ⟨_, rfl⟩
  have L0 : LvOk zs a 11 [] R0 P0 := ⟨hl, hall, h0, ha, fun h => by rw [hR0, rtM_le nS 11 (by omega), List.eq_nil_of_length_eq_zero h]; rfl, fun _ => hR0.symm, by simp [hP0], by rw [hP0]; have := ptM_len nS 11 _ zs a (Nat.le_refl _); omega⟩
  rw [← hR0, ← hP0]
  clear hR0 hP0
  have F1 := fldI1
  obtain ⟨i0, hi0, hz0, hz1, hz2⟩ := info_parts info64
  refine (callsIn_wide (n := 5)).1 ?_
  refine callsIn_of_wp_marks Tryd.func59 rfl trivial ?_ rfl
  simp only [Tryd.ntmps59, List.size_toArray, List.length_cons, List.length_nil, Nat.reduceAdd, Nat.reduceSub, Array.replicate_succ, Array.replicate_zero, List.push_toArray, List.append_toArray, List.nil_append, List.cons_append]
  gi_wp2_with fail
  refine wpIn_wide.2 (wp_scope_straight ((wpIn_wide (n := 5)).1 ?_))
  refine wpIn_seq ?_
  refine wpIn_wide.2 ?_
  go_wp2_with fail
  refine (implSumOf_any none 0 [] _ (has_none _) (by simp)).mono ?_
  rintro r u1 ⟨rfl, hb1⟩
  have e11 : sumV [] = 11 := by simp [sumV, sumL]
  rw [e11]
  go_wp2_with fail
  gi_wp2_with fail
  refine wpIn_label ?_
  gi_wp2_with fail
  rename_i K hK
  have z1 := hb1.size
  simp at z1
  have S0 : OutS w u1.heap.size a 11 zs x [] (.slice none 0 0) [] (u1.alloc (.cells #[.int .i64 11, .slice none 0 0] 70)) := by
    have B2 : Below w.heap.size w u1 := (((Below.refl _ w).alloc (Nat.le_refl _) _).alloc (by simp) _).trans (hb1.mono (by simp; omega))
    refine ⟨?_, ?_, Blk.new _ _ _, by omega, World.ownsRow_nil _ _ _ _, by simp [Value.ownBlock], (hp.below B2 (Nat.le_refl _)).alloc _, ?_, trivial, B2.alloc B2.size _⟩
    · exact (((Blk.new w #[.int .i64 a] 2).below ((Below.refl _ _).alloc (Nat.le_refl _) (.cells #[.int .i64 0, .slice none 0 0] 70)) (by simp)).below hb1 (by simp; omega)).below ((Below.refl _ u1).alloc (Nat.le_refl _) _) (by omega)
    · have := Blk.new (w.alloc (.cells #[.int .i64 a] 2)) #[.int .i64 0, .slice none 0 0] 70
      rw [World.size_alloc] at this
      exact (this.below hb1 (by simp)).below ((Below.refl _ u1).alloc (Nat.le_refl _) _) (by omega)
    · intro hpos ad e
      subst e
      rcases hp.2.2 with h | ⟨b, off, e, hlt, _⟩
      · omega
      · simp at e; subst e
        refine ⟨?_, ?_, ?_, by simp [Value.ownBlock]⟩
        · show b ≠ _; omega
        · show b ≠ _; omega
        · show b ≠ _; omega
  generalize u1.alloc (.cells #[.int .i64 11, .slice none 0 0] 70) = W1 at *
  generalize u1.heap.size = C at *
  have END : ∀ (W : World) (la : Option Addr) (n lc : Nat) (u : Fin 9 → Value) (ds : List Deferred) (pv : Value), Blk W (w.heap.size + 1) #[.int .i64 0, .slice none 0 0] 70 → Blk W C #[.int .i64 R0, pv] 70 → pv.ownBlock ≠ some (w.heap.size + 1) → W.ownsRow w.heap.size 2 1 pv P0.length (P0.map (.int .i64)) → Marked w.heap.size W ds → Below w.heap.size w W → K (actL x zs.length c a w.heap.size C la n lc u ds) W := by
    intro W la n lc u ds pv hR hC hne hrow hmk hbl
    refine hK _ _ ?_
    clear hK
    obtain ⟨pa, pc, rfl⟩ := own_row_shape hrow
    have c0 := hC.cell 0
    have c1 := hC.cell 1
    have f0 := hC.frozen 0
    have r0 := hR.cell 0
    have r1 := hR.cell 1
    have g0 := hR.frozen 0
    have g1 := hR.frozen 1
    simp at c0 c1 r0 r1
    unfold actL
    gi_wp2_with fail
    have h2 : Blk ((W.setCell ⟨w.heap.size + 1, 0, none⟩ (.int .i64 R0)).setCell ⟨w.heap.size + 1, 1, none⟩ (.slice pa P0.length pc)) (w.heap.size + 1) #[.int .i64 R0, .slice pa P0.length pc] 70 := by
      have := (hR.set 0 (.int .i64 R0)).set 1 (.slice pa P0.length pc)
      simpa using this
    have fs : Fr (fun k => k = w.heap.size + 1) W ((W.setCell ⟨w.heap.size + 1, 0, none⟩ (.int .i64 R0)).setCell ⟨w.heap.size + 1, 1, none⟩ (.slice pa P0.length pc)) := by
      refine Fr.setCell (Fr.setCell (Fr.refl _ _) _ _ ?_) _ _ ?_ <;> rfl
    have hnk : ∀ k, (∃ d ∈ ds, d.target = .collected k) → k ≠ w.heap.size + 1 := fun k hk e => by
      have := (hmk.at hk).2
      rw [e, show W.heap[w.heap.size + 1]? = _ from hR] at this
      cases this
    refine leaves_marks (base := w.heap.size) ds _ (hmk.fr (fun k hk => fs.block k (Array.getElem?_eq_some_iff.1 (hmk.at hk).2).1 (hnk k hk))) ?_
    intro W' hf
    have h3 := h2.fr hf (fun hk => hnk _ hk rfl)
    have d0 := h3.cell 0
    have d1 := h3.cell 1
    simp at d0 d1
    refine ⟨.agg #[.int .i64 R0, .slice pa P0.length pc], by simp [results, Tryd.results59, go_sem, d0, d1], pa, pc, rfl, own_fr (own_fr hrow fs (fun g e1 e2 => hne (by rw [e1, e2]))) hf (fun g e1 hk => ?_), ?_⟩
    · obtain ⟨cs, h4⟩ := own_cells hrow e1
      have := (hmk.at hk).2
      rw [h4] at this
      cases this
    · exact (hbl.trans (fs.below (B := w.heap.size) (fun k e => by omega) hbl.size)).trans (hf.below (fun k hk => (hmk.at hk).1) (Nat.le_trans hbl.size fs.size))
  refine wpIn_loop (fun a' W => ∃ zs' a'' r ps pv la lc ds u, a' = actL x zs.length c a w.heap.size C la zs'.length lc u ds ∧ OutS w C a'' r zs' la ps pv ds W ∧ LvOk zs' a'' r ps R0 P0 ∧ zs'.length ≤ lc ∧ lc ≤ maxLen) (fun a' _ => match a'.tmps.getD 6 undef with | .slice _ n _ => n | _ => 0) ⟨zs, a, 11, [], _, x, c, [], fun _ => undef, rfl, S0, L0, hc, hm⟩ ?_
  clear S0 L0 hc hm hp hl hall h0 ha
  rintro _ W ⟨zs', a', r, ps, pv, la, lc, ds, u, rfl, hS, hL, hc, hm⟩
  obtain ⟨l24, hall, ha0, ha1, hr0, hr1, hP, hP24⟩ := hL
  unfold maxLen at hm
  by_cases hz : zs'.length = 0
  · have hz' : ¬ (0 : Int) < (zs'.length : Int) := by omega
    have e1 := hr0 hz
    have e2 : ps = P0 := by rw [← hP, ptM_le nS 11 a' (by omega)]; simp
    subst e1 e2
    have F := fun u14 u15 u16 => END W la 0 lc (fun i => if i = 1 then u14 else if i = 2 then u15 else if i = 3 then u16 else u i) ds pv hS.rb hS.cb hS.np.2.1 hS.prow hS.marks hS.bel
    unfold actL at F ⊢
    simp at F
    clear END hr0 hr1 hP hK
    gi_wp2_with fail
    exact F _ _ _
  · have hpos : 0 < zs'.length := by omega
    have hpos' : (0 : Int) < (zs'.length : Int) := by omega
    obtain ⟨bl, off, hla, hblt, hcell⟩ : ∃ b off, la = some ⟨b, off, none⟩ ∧ b < W.heap.size ∧ ∀ i, i < zs'.length → W.cell? ⟨b, off + i, none⟩ = some (.int .i64 (zs'.getD i 0)) := by
      rcases hS.lev.2.2 with h | h
      · omega
      · exact h
    subst hla
    have hRz := hr1 hpos
    have ha1' : a' < zs'.length := by omega
    clear hr0 hr1 ha1 hz
    unfold actL
    gi_wp2_with (refine ⟨trivial, ?_⟩; gi_at_call 94; refine (callsIn_wide.2 (pairsOf_any _ _ _ _)).mono ?_; rintro r u2 ⟨rfl, rfl⟩)
    obtain ⟨V, hV⟩ : ∃ V, V = W.heap.size := ⟨_, rfl⟩
    have aS : ∀ o : Obj, Below W.heap.size W (W.alloc o) := fun o => (Below.refl _ _).alloc (Nat.le_refl _) o
    have b0 : Below W.heap.size W ((W.alloc (.cells #[.slice none 0 0] 24)).alloc (.cells #[.slice (some ⟨bl, off, none⟩) zs'.length lc] 24)) := (aS _).alloc (by simp) _
    have hVb : Blk ((W.alloc (.cells #[.slice none 0 0] 24)).alloc (.cells #[.slice (some ⟨bl, off, none⟩) zs'.length lc] 24)) V #[.slice none 0 0] 24 := by
      rw [hV]; exact (Blk.new W #[.slice none 0 0] 24).below ((Below.refl _ _).alloc (Nat.le_refl _) _) (by simp)
    have hBb : Blk ((W.alloc (.cells #[.slice none 0 0] 24)).alloc (.cells #[.slice (some ⟨bl, off, none⟩) zs'.length lc] 24)) (V + 1) #[.slice (some ⟨bl, off, none⟩) zs'.length lc] 24 := by
      have := Blk.new (W.alloc (.cells #[.slice none 0 0] 24)) #[.slice (some ⟨bl, off, none⟩) zs'.length lc] 24
      rw [World.size_alloc] at this
      rw [hV]; exact this
    have hsz : ((W.alloc (.cells #[.slice none 0 0] 24)).alloc (.cells #[.slice (some ⟨bl, off, none⟩) zs'.length lc] 24)).heap.size = V + 2 := by simp [hV]
    rw [← hV]
    generalize (W.alloc (.cells #[.slice none 0 0] 24)).alloc (.cells #[.slice (some ⟨bl, off, none⟩) zs'.length lc] 24) = W0 at *
    have hCl : C < V := by rw [hV]; exact hS.cb.lt
    have nl := hS.nl hpos _ rfl
    have pl : ∀ g, pv.ownBlock = some g → g < V := fun g e => by rw [hV]; exact (hS.prow.lt g e).2
    have I0 : InS w.heap.size C V W0 pv r ps [] W0 pv (.slice none 0 0) := ⟨hS.cb.below b0 hS.cb.lt, hVb, own_fr (M := fun _ => False) hS.prow (.of_below b0 (Nat.le_refl _)) (fun _ _ => id), World.ownsRow_nil _ _ _ _, fun _ _ => by simp [Value.ownBlock], fun g e => .inr e, Fr.refl _ _⟩
    have A0 : Blk W0 w.heap.size #[.int .i64 a'] 2 := hS.ab.below b0 hS.ab.lt
    have RB0 : Blk W0 (w.heap.size + 1) #[.int .i64 0, .slice none 0 0] 70 := hS.rb.below b0 hS.rb.lt
    have hcell0 : ∀ j, j < zs'.length → W0.cell? ⟨bl, off + j, none⟩ = some (.int .i64 (zs'[j]?.getD 0)) := fun j hj => by rw [b0.cell (p := ⟨bl, off + j, none⟩) hblt, hcell j hj, List.getD_eq_getElem?_getD]
    have M0 : Marked w.heap.size W0 ds := hS.marks.fr (fun k hk => b0.block k (Array.getElem?_eq_some_iff.1 (hS.marks.at hk).2).1)
    have Bw : Below w.heap.size w W0 := hS.bel.trans (b0.mono hS.bel.size)
    have hC0 := hS.hC
    have hbV : bl < V := by omega
    have hpl := hS.np
    have hpL : ps.length ≤ 24 := by rw [← hP, List.length_append] at hP24; omega
    have HP : Hid (ps ++ ptM nS 11 zs' a' = P0) := hP
    have TabOf : Hid (∀ Y : World, Fr (fun k => k = C ∨ k = V ∨ pv.ownBlock = some k) W0 Y → Tab Y) := fun Y hf => hT.below (Bw.trans (hf.below (B := w.heap.size) (by rintro j (e | e | e); omega; omega; exact (I0.prow.lt j e).1) Bw.size)) (Nat.le_refl _)
    have hs1 : V + 2 ≤ W0.heap.size := by omega
    have hs2 : W0.heap.size ≤ V + 2 := by omega
    have HT : Hid (Tab w) := hT
    clear hcell hS hP b0 aS hV hsz hblt hT hb1 e11
    by_cases hone : zs'.length = 1
    · have hR1 : pA zs' 0 = R0 := by
        rw [← hRz, rtM_le nS 11 (by omega)]
        cases zs' with
        | nil => simp at hpos
        | cons y ys => rfl
      have hPs : ps = P0 := by rw [← HP.out, ptM_le nS 11 a' (by omega), List.append_nil]
      have HR1 : Hid (pA zs' 0 = R0) := hR1
      clear hR1 hRz
      refine wpIn_rangeFunc_ownH (F := Fence.wide) rfl (by decide) (gf := 109) (lb := #[.pointer (some ⟨V + 1, 0, none⟩)]) rfl trivial (enters_of Tryd.func109 (by kernel_rfl) rfl)
        (pairs_stops 4 (V + 1) bl off lc zs' (Nat.le_trans l24 (by decide)) hpos W0 (by have := hBb.cell 0; simpa using this) hcell0) (fun h k b hb => (k b hb).trans (h b hb))
        (fun X l o o' hl _ _ _ b hb => World.putObj_heap_other (by rcases hb with rfl | rfl <;> omega)) (Below.refl _ _) (fun _ => rfl)
        (fun pre X => pre = [] ∧ ∃ pv' av, InS w.heap.size C V W0 pv r ps [] X pv' av) (fun cd _ X => cd = .exit 0 ∧ ∃ pv' av, InS w.heap.size C V W0 pv R0 ps [] X pv' av)
        (fun s X Y row hs hg hr => by obtain ⟨hn, pv', av, h⟩ := hs; exact ⟨hn, pv', av, h.kept (by omega) (by omega) hg hr⟩) (fun cd s X Y row hs hg hr => by obtain ⟨hn, pv', av, h⟩ := hs; exact ⟨hn, pv', av, h.kept (by omega) (by omega) hg hr⟩) ⟨rfl, pv, .slice none 0 0, I0⟩
        (fun x0 b' X => ∃ Bx, W0.heap.size ≤ Bx ∧ Blk X Bx #[.int .i64 (pA zs' x0.1), .int .i64 (pB zs' x0.1), .bool (pL zs' x0.1)] 102 ∧ b' = actR x zs.length c a w.heap.size C V bl off zs'.length lc x0.1 Bx (pA zs' x0.1) (pB zs' x0.1) (pL zs' x0.1) (u 6) (u 7) (u 8))
        (fun x0 b' s X Y row hs hg hr => by
          obtain ⟨Bx, h1, h2, h3⟩ := hs
          refine ⟨Bx, h1, h2.fr (M := fun k => row = some k) (.of_grown hg (fun k e => e)) (fun e => ?_), h3⟩
          obtain ⟨_, o, ho, hn⟩ := hr Bx e
          rw [show X.heap[Bx]? = _ from h2] at ho; cases ho; cases hn) ?assign1 ?body1 ?done1 ?stop1
      case assign1 =>
        rintro l pre x0 X K' ⟨hn, pv', av, hi⟩ hK'
        unfold encP
        clear hone hPs
        gi_wp2
        exact hK' _ _ ((KeepsOthers.alloc X _).from _) (fun b hb => Below.heap_alloc X _ b (by have := hi.fr.size; rcases hb with rfl | rfl <;> omega)) ⟨hn, pv', av, hi.below ((Below.refl _ _).alloc (Nat.le_refl _) _)⟩ ⟨X.heap.size, hi.fr.size, Blk.new _ _ _, rfl⟩
      case body1 =>
        rintro l pre ⟨k, hk⟩ b' X hl - ⟨hn, pv', av, hi⟩ ⟨Bx, hBx, bX, rfl⟩ hlt
        dsimp only at bX ⊢
        have hk0 : k = 0 := by omega
        subst hk0
        have hL1 : pL zs' 0 = true := by unfold pL; simp [hone]
        rw [hL1, HR1.out] at bX
        rw [hL1, HR1.out]
        have p0 := bX.cell 0
        have p2 := bX.cell 2
        have c0 := hi.c.cell 0
        have c1 := hi.c.frozen 0
        simp at p0 p2 c0
        obtain ⟨E1, E2⟩ := hi.setR (by omega) (by omega) hpl.2.2 R0
        have FIN : Hid (KeepsFrom W0.heap.size X (X.setCell ⟨C, 0, none⟩ (.int .i64 R0)) ∧ ∃ pv' av, InS w.heap.size C V W0 pv R0 ps [] (X.setCell ⟨C, 0, none⟩ (.int .i64 R0)) pv' av) := by
          obtain ⟨f1, _⟩ := hi.pays (B := V + 1) (bl := bl) (by omega) (by omega) (by omega) (by omega) ⟨by omega, by omega, fun e => by have := pl _ e; omega⟩ ⟨nl.2.2.1, by omega, nl.2.2.2⟩ (E2.mono (fun j e => .inl e))
          exact ⟨f1, pv', av, E1⟩
        unfold actR
        clear hone hPs hL1
        gi_wp2_with fail
        exact ⟨FIN.out.1, rfl, FIN.out.2⟩
      case done1 =>
        rintro D ys Y hD rfl ⟨hn, _⟩ hKD
        have := congrArg List.length hn
        rw [upP_len] at this
        simp at this
        omega
      case stop1 =>
        rintro D cd pre Y hD - ⟨rfl, pv2, av, hi⟩ hKD
        have np2 : ∀ q, q < W0.heap.size → pv.ownBlock ≠ some q → pv2.ownBlock ≠ some q := fun q h1 h2 e => by
          rcases hi.old q e with h4 | h4
          · omega
          · exact h2 h4
        have rY : Blk Y (w.heap.size + 1) #[.int .i64 0, .slice none 0 0] 70 := RB0.fr hi.fr (by rintro (e | e | e); omega; omega; exact hpl.2.1 e)
        have mY : ∀ q, (∃ d ∈ ds, d.target = .collected q) → Y.heap[q]? = W0.heap[q]? := fun q hq => hi.fr.block q (Array.getElem?_eq_some_iff.1 (M0.at hq).2).1 (by
          have hd := (M0.at hq).2
          rintro (e | e | e)
          · rw [e, show W0.heap[C]? = _ from I0.c] at hd; cases hd
          · rw [e, show W0.heap[V]? = _ from I0.v] at hd; cases hd
          · obtain ⟨cs, hcs⟩ := own_cells I0.prow e
            rw [hcs] at hd; cases hd)
        have prow := hi.prow
        rw [hPs] at prow
        have F := END Y (some ⟨bl, off, none⟩) zs'.length lc (fun i => [.pointer (some ⟨V, 0, none⟩), .slice (some ⟨bl, off, none⟩) zs'.length lc, .int .i64 zs'.length, .bool true, .slice (some ⟨bl, off, none⟩) zs'.length lc, .func (.func 109) #[] #[.pointer (some ⟨V + 1, 0, none⟩)], u 6, u 7, u 8].getD i.val undef) ({ target := .collected D, args := #[] } :: ds) pv2 rY hi.c (np2 _ (by omega) hpl.2.1) prow
          ⟨D, rfl, by omega, hKD, fun d' hd' e => by have := (Array.getElem?_eq_some_iff.1 (M0.at ⟨d', hd', e⟩).2).1; omega, M0.fr mY⟩
          (Bw.trans (hi.fr.below (B := w.heap.size) (by rintro q (e | e | e); omega; omega; exact (I0.prow.lt q e).1) Bw.size))
        clear hone hPs END hK
        gi_wp2_with fail
        exact F
    · refine wpIn_rangeFunc_ownH (F := Fence.wide) rfl (by decide) (gf := 109) (lb := #[.pointer (some ⟨V + 1, 0, none⟩)]) rfl trivial (enters_of Tryd.func109 (by kernel_rfl) rfl)
        (pairs_stops 4 (V + 1) bl off lc zs' (Nat.le_trans l24 (by decide)) hpos W0 (by have := hBb.cell 0; simpa using this) hcell0) (fun h k b hb => (k b hb).trans (h b hb))
        (fun X l o o' hl _ _ _ b hb => World.putObj_heap_other (by rcases hb with rfl | rfl <;> omega)) (Below.refl _ _) (fun _ => rfl)
        (fun pre X => ∃ pv' av, InS w.heap.size C V W0 pv r (ps ++ pre.flatMap (fun x => hitP zs' a' x.1)) (pre.map (fun x => jP zs' x.1)) X pv' av) (fun _ _ _ => False)
        (fun s X Y row hs hg hr => by obtain ⟨pv', av, h⟩ := hs; exact ⟨pv', av, h.kept (by omega) (by omega) hg hr⟩) (fun _ _ _ _ _ hs _ _ => hs) ⟨pv, .slice none 0 0, by simpa using I0⟩
        (fun x0 b' X => ∃ Bx, W0.heap.size ≤ Bx ∧ Blk X Bx #[.int .i64 (pA zs' x0.1), .int .i64 (pB zs' x0.1), .bool (pL zs' x0.1)] 102 ∧ b' = actR x zs.length c a w.heap.size C V bl off zs'.length lc x0.1 Bx (pA zs' x0.1) (pB zs' x0.1) (pL zs' x0.1) (u 6) (u 7) (u 8))
        (fun x0 b' s X Y row hs hg hr => by
          obtain ⟨Bx, h1, h2, h3⟩ := hs
          refine ⟨Bx, h1, h2.fr (M := fun k => row = some k) (.of_grown hg (fun k e => e)) (fun e => ?_), h3⟩
          obtain ⟨_, o, ho, hn⟩ := hr Bx e
          rw [show X.heap[Bx]? = _ from h2] at ho; cases ho; cases hn) ?assign ?body ?done ?stop
      case assign =>
        rintro l pre x0 X K' ⟨pv', av, hi⟩ hK'
        unfold encP
        gi_wp2
        exact hK' _ _ ((KeepsOthers.alloc X _).from _) (fun b hb => Below.heap_alloc X _ b (by have := hi.fr.size; rcases hb with rfl | rfl <;> omega)) ⟨pv', av, hi.below ((Below.refl _ _).alloc (Nat.le_refl _) _)⟩ ⟨X.heap.size, hi.fr.size, Blk.new _ _ _, rfl⟩
      case body =>
        rintro l pre ⟨k, hk⟩ b' X hl - ⟨pv', av, hi⟩ ⟨Bx, hBx, bX, rfl⟩ hlt
        dsimp only at bX ⊢
        have hA := pA_bd hall k hk
        have hB := pB_bd hall k hk
        have hx0 : k = 0 → pL zs' k = false := fun e => by unfold pL; simp; omega
        have HJ : Hid (jP zs' k = jn (pA zs' k) (pB zs' k) (pL zs' k)) := rfl
        have HH : Hid (hitP zs' a' k = if (k : Int) = a' / 2 ∧ pL zs' k = false then [if a' % 2 = 0 then pB zs' k else pA zs' k] else []) := rfl
        have AX : Blk X w.heap.size #[.int .i64 a'] 2 := A0.fr hi.fr (by rintro (e | e | e); omega; omega; exact hpl.1 e)
        have TX : Hid (Tab X) := TabOf.out _ hi.fr
        generalize pA zs' k = A1 at *
        generalize pB zs' k = B1 at *
        generalize pL zs' k = L1 at *
        have p0 := bX.cell 0
        have p1 := bX.cell 1
        have p2 := bX.cell 2
        have q0 := AX.cell 0
        simp at p0 p1 p2 q0
        unfold actR
        by_cases hhit : (k : Int) = a' / 2 ∧ L1 = false
        · have hu : (pre.map (fun x => jP zs' x.1)).length ≤ 24 := by simp; omega
          have hq24 : (ps ++ pre.flatMap (fun x => hitP zs' a' x.1)).length ≤ 100 := by
            have : ∀ q : List (Pl zs'), (q.flatMap (fun x => hitP zs' a' x.1)).length ≤ q.length := by
              intro q
              induction q with
              | nil => simp
              | cons y q ih => simp only [List.flatMap_cons, List.length_append, List.length_cons]; have : (hitP zs' a' y.1).length ≤ 1 := (by unfold hitP; split <;> simp); omega
            have := this pre
            rw [List.length_append]; omega
          generalize hus : pre.map (fun x => jP zs' x.1) = us at *
          generalize hps : ps ++ pre.flatMap (fun x => hitP zs' a' x.1) = qs at *
          have BS : Hid (∀ u : World, Calls Tryd.prog 95 #[.agg #[.int .i64 A1, .int .i64 B1, .bool false], .int .i64 a'] u fun r w' => r = .returned (.int .i64 (if a' % 2 = 0 then B1 else A1)) ∧ Below u.heap.size u w') := fun u => beside_any A1 B1 a' false u ha0
          obtain ⟨bv, hbv⟩ : ∃ bv, (if a' % 2 = 0 then B1 else A1) = bv := ⟨_, rfl⟩
          rw [hbv] at BS
          have HV : Hid (hitP zs' a' k = [bv]) := by show _ = _; rw [HH.out, if_pos hhit, hbv]
          obtain ⟨hne, hL0⟩ := hhit
          subst hL0
          clear hbv HH
          have FIN : ∀ (Y : World) (pv2 av2 : Value), InS w.heap.size C V W0 pv r (qs ++ [bv]) (us ++ [jn A1 B1 false]) Y pv2 av2 → Fr (fun j => j = C ∨ j = V ∨ pv'.ownBlock = some j ∨ av.ownBlock = some j) X Y → KeepsFrom W0.heap.size X Y ∧ KpB (fun j => j = V + 1 ∨ j = bl) X Y ∧ ∃ pv' av, InS w.heap.size C V W0 pv r (ps ++ (pre ++ [(⟨k, hk⟩ : Pl zs')]).flatMap (fun x => hitP zs' a' x.1)) ((pre ++ [(⟨k, hk⟩ : Pl zs')]).map (fun x => jP zs' x.1)) Y pv' av := fun Y pv2 av2 h hf => by
            obtain ⟨f1, f2⟩ := hi.pays (B := V + 1) (bl := bl) (by omega) (by omega) (by omega) (by omega) ⟨by omega, by omega, fun e => by have := pl _ e; omega⟩ ⟨nl.2.2.1, by omega, nl.2.2.2⟩ hf
            refine ⟨f1, f2, pv2, av2, ?_⟩
            have e1 : (pre ++ [(⟨k, hk⟩ : Pl zs')]).map (fun x => jP zs' x.1) = us ++ [jn A1 B1 false] := by rw [List.map_append, hus, List.map_singleton]; exact congrArg (fun t => us ++ [t]) HJ.out
            have e2 : ps ++ (pre ++ [(⟨k, hk⟩ : Pl zs')]).flatMap (fun x => hitP zs' a' x.1) = qs ++ [bv] := by rw [List.flatMap_append, ← List.append_assoc, hps]; simp only [List.flatMap_cons, List.flatMap_nil, List.append_nil]; rw [HV.out]
            rw [e1, e2]
            exact h
          have hne' : ((k : Int) == a' / 2) = true := by simpa using hne
          clear hne
          by_cases hk0 : (k : Int) = 0
          · have hk0' : ((k : Int) == 0) = true := by simpa using hk0
            have HK0 : Hid ((k : Int) = 0) := hk0
            clear hk0
            gi_wp2_with fail
            refine wpIn_round_held (S := fun u => Blk u Bx #[.int .i64 A1, .int .i64 B1, .bool false] 102 ∧ Blk u w.heap.size #[.int .i64 a'] 2) (by kernel_rfl) (by kernel_rfl) (fun ⟨_, _, h⟩ => h) ⟨bX.below (Below.refl _ _).drew bX.lt, AX.below (Below.refl _ _).drew AX.lt⟩ (fun hs => ?_)
            have hid := hi.below (W' := X.drew) (Below.refl _ _).drew
            refine take_at (i := 0) (d := some 39) (v := .pointer (some ⟨C, 1, none⟩)) rfl rfl (by kernel_rfl) (by kernel_rfl) (by kernel_rfl) (fun _ _ _ h => h) (Or.inl ⟨by rfl, ?z1⟩) (by assumption) ?h1
            case z1 => (intro z hSz; go_simp)
            try simp only [Act.put, List.setIfInBounds_toArray, List.set_cons_zero, List.set_cons_succ]
            refine take_at (i := 2) (d := some 41) (v := .agg #[.int .i64 A1, .int .i64 B1, .bool false]) rfl rfl (by kernel_rfl) (by kernel_rfl) (by kernel_rfl) (fun _ _ _ h => h) (Or.inl ⟨by rfl, ?z2⟩) (by assumption) ?h2
            case z2 => (intro z hSz; have e0 := hSz.1.cell 0; have e1 := hSz.1.cell 1; have e2 := hSz.1.cell 2; simp at e0 e1 e2; go_simp)
            try simp only [Act.put, List.setIfInBounds_toArray, List.set_cons_zero, List.set_cons_succ]
            refine take_at (i := 3) (d := some 42) (v := .int .i64 a') rfl rfl (by kernel_rfl) (by kernel_rfl) (by kernel_rfl) (fun _ _ _ h => h) (Or.inl ⟨by rfl, ?z3⟩) (by assumption) ?h3
            case z3 => (intro z hSz; have e0 := hSz.2.cell 0; simp at e0; go_simp)
            try simp only [Act.put, List.setIfInBounds_toArray, List.set_cons_zero, List.set_cons_succ]
            refine wpAnyH_ready (rs := [1, 4]) (by kernel_rfl) (by simp) ?_
            refine AllReadyH.cons rfl (fun K' hK' => ?_) (AllReadyH.cons rfl (fun K' hK' => ?_) AllReadyH.nil)
            · have v0 := (hid).c.cell 1
              simp at v0
              go_simp
              refine hK'.out _ _ hs (fun _ => ?_)
              clear hK' K'
              try simp only [Act.put, List.setIfInBounds_toArray, List.set_cons_zero, List.set_cons_succ]
              refine wpAnyH_ready (rs := [4]) (by kernel_rfl) (by simp) ?_
              refine AllReadyH.cons rfl (fun K' hK' => ?_) AllReadyH.nil
              go_simp
              refine (BS.out _).mono ?_
              rintro _ w1 ⟨rfl, hc1⟩
              refine hK'.out _ _ ⟨hs.1.below hc1 hs.1.lt, hs.2.below hc1 hs.2.lt⟩ (fun hs1 => ?_)
              clear hK' K'
              try simp only [Act.put, List.setIfInBounds_toArray, List.set_cons_zero, List.set_cons_succ]
              refine wpAnyH_ready (rs := [5]) (by kernel_rfl) (by simp) ?_
              refine AllReadyH.cons rfl (fun K' hK' => ?_) AllReadyH.nil
              go_simp
              refine hK'.out _ _ ⟨hs1.1.below ((Below.refl _ _).alloc (Nat.le_refl _) _) hs1.1.lt, hs1.2.below ((Below.refl _ _).alloc (Nat.le_refl _) _) hs1.2.lt⟩ (fun hs2 => ?_)
              clear hK' K'
              try simp only [Act.put, List.setIfInBounds_toArray, List.set_cons_zero, List.set_cons_succ]
              have hd2 := (hid.below hc1).below (W' := w1.alloc (.cells #[.int .i64 bv] 2)) ((Below.refl _ _).alloc (Nat.le_refl _) _)
              refine wpAnyH_ready (rs := [6]) (by kernel_rfl) (by simp) ?_
              refine AllReadyH.cons rfl (fun K' hK' => ?_) AllReadyH.nil
              refine step_app1 rfl _ _ 24 rfl w.heap.size 2 i0 Tryd.underlying24 hi0 hz0 hz1 hz2 pv' qs.length (qs.map (.int .i64)) rfl hd2.prow w1.heap.size 1 bv rfl (by simp [go_sem]) (by omega) (Nat.le_trans (by omega : w.heap.size ≤ W0.heap.size) hd2.fr.size) ?_
              intro g' c' w3 hown hgrow hnew
              obtain ⟨G1, G2, G3⟩ := hi.appendC (by omega) (by omega) (by omega) hpl.2.2 (fun e => by have := pl _ e; omega) (((Below.refl _ X).drew.trans hc1).alloc hc1.size _) hown hgrow hnew
              have nBx : pv'.ownBlock ≠ some Bx := fun e => (by obtain ⟨cs, hcs⟩ := own_cells hd2.prow e; rw [show _ = _ from hs2.1] at hcs; simp at hcs)
              have nA : pv'.ownBlock ≠ some w.heap.size := fun e => (by rcases hi.old _ e with h4 | h4; omega; exact hpl.1 h4)
              refine hK'.out _ _ ⟨hs2.1.fr (M := fun j => pv'.ownBlock = some j) (.of_grown hgrow (fun j e => e)) nBx, hs2.2.fr (M := fun j => pv'.ownBlock = some j) (.of_grown hgrow (fun j e => e)) nA⟩ (fun hs3 => ?_)
              clear hK' K'
              try simp only [Act.put, List.setIfInBounds_toArray, List.set_cons_zero, List.set_cons_succ]
              refine take_at (i := 7) (d := some 46) (v := .pointer (some ⟨C, 1, none⟩)) rfl rfl (by kernel_rfl) (by kernel_rfl) (by kernel_rfl) (fun _ _ _ h => h) (Or.inl ⟨by rfl, ?z4⟩) (by assumption) ?h4
              case z4 => (intro z hSz; go_simp)
              try simp only [Act.put, List.setIfInBounds_toArray, List.set_cons_zero, List.set_cons_succ]
              have v3 := G3.cell 1
              have v4 := G3.frozen 1
              simp at v3
              refine wpAnyH_ready (rs := [8]) (by kernel_rfl) (by simp) ?_
              refine AllReadyH.cons rfl (fun K' hK' => ?_) AllReadyH.nil
              go_simp
              refine hK'.out _ _ ⟨hs3.1.fr (M := fun j => j = C) (by refine Fr.setCell (Fr.refl _ _) _ _ ?_; rfl) (show Bx ≠ C by omega), hs3.2.fr (M := fun j => j = C) (by refine Fr.setCell (Fr.refl _ _) _ _ ?_; rfl) (show w.heap.size ≠ C by omega)⟩ (fun hs4 => ?_)
              clear hK' K'
              try simp only [Act.put, List.setIfInBounds_toArray, List.set_cons_zero, List.set_cons_succ]
              refine wpAnyH_done (by kernel_rfl) ?_ _
              have bY := hs4.1
              have TY : Hid (Tab _) := TabOf.out _ G1.fr
              clear v3 v4 hs hs1 hs2 hs3 hs4 p0 p1 p2 q0 hid hown hgrow hnew v0 hd2 hc1
              generalize w3.setCell ⟨C, 1, none⟩ (.slice (some ⟨g', 0, none⟩) (qs.length + 1) c') = X1 at *
              gi_wp2_with fail
              refine wpIn_round_held (S := fun u => Blk u Bx #[.int .i64 A1, .int .i64 B1, .bool false] 102) (by kernel_rfl) (by kernel_rfl) (fun ⟨_, _, h⟩ => h) (bY.below (Below.refl _ _).drew bY.lt) (fun hs => ?_)
              have hid := G1.below (W' := X1.drew) (Below.refl _ _).drew
              refine take_at (i := 1) (d := some 48) (v := .agg #[.int .i64 A1, .int .i64 B1, .bool false]) rfl rfl (by kernel_rfl) (by kernel_rfl) (by kernel_rfl) (fun _ _ _ h => h) (Or.inl ⟨by rfl, ?y5⟩) hs ?g5
              case y5 => (intro z hSz; have e0 := hSz.cell 0; have e1 := hSz.cell 1; have e2 := hSz.cell 2; simp at e0 e1 e2; go_simp)
              try simp only [Act.put, List.setIfInBounds_toArray, List.set_cons_zero, List.set_cons_succ]
              refine wpAnyH_ready (rs := [0, 2]) (by kernel_rfl) (by simp) ?_
              refine AllReadyH.cons rfl (fun K' hK' => ?_) (AllReadyH.cons rfl (fun K' hK' => ?_) AllReadyH.nil)
              · have v0 := (hid).v.cell 0
                simp at v0
                go_simp
                refine hK'.out _ _ hs (fun _ => ?_)
                clear hK' K'
                try simp only [Act.put, List.setIfInBounds_toArray, List.set_cons_zero, List.set_cons_succ]
                refine wpAnyH_ready (rs := [2]) (by kernel_rfl) (by simp) ?_
                refine AllReadyH.cons rfl (fun K' hK' => ?_) AllReadyH.nil
                go_simp
                refine (joined_any A1 B1 false _ (TY.out.below (Below.refl _ _).drew (Nat.le_refl _)) hA (fun _ => hB)).mono ?_
                rintro _ w1 ⟨rfl, hc1⟩
                refine hK'.out _ _ (hs.below hc1 hs.lt) (fun hs1 => ?_)
                clear hK' K'
                try simp only [Act.put, List.setIfInBounds_toArray, List.set_cons_zero, List.set_cons_succ]
                refine wpAnyH_ready (rs := [3]) (by kernel_rfl) (by simp) ?_
                refine AllReadyH.cons rfl (fun K' hK' => ?_) AllReadyH.nil
                go_simp
                refine hK'.out _ _ (hs1.below ((Below.refl _ _).alloc (Nat.le_refl _) _) hs1.lt) (fun hs2 => ?_)
                clear hK' K'
                try simp only [Act.put, List.setIfInBounds_toArray, List.set_cons_zero, List.set_cons_succ]
                have hd2 := (hid.below hc1).below (W' := w1.alloc (.cells #[.int .i64 (jn A1 B1 false)] 2)) ((Below.refl _ _).alloc (Nat.le_refl _) _)
                refine wpAnyH_ready (rs := [4]) (by kernel_rfl) (by simp) ?_
                refine AllReadyH.cons rfl (fun K' hK' => ?_) AllReadyH.nil
                refine step_app1 rfl _ _ 24 rfl W0.heap.size 2 i0 Tryd.underlying24 hi0 hz0 hz1 hz2 av us.length (us.map (.int .i64)) rfl hd2.arow w1.heap.size 1 (jn A1 B1 false) rfl (by simp [go_sem]) (by omega) (by have := hd2.fr.size; omega) ?_
                intro g' c' w3 hown hgrow hnew
                obtain ⟨E1, E2, E3⟩ := G1.appendV (by omega) (by omega) (by omega) (fun e => by have := pl _ e; omega) (((Below.refl _ X1).drew.trans hc1).alloc hc1.size _) hown hgrow hnew
                have nBx : av.ownBlock ≠ some Bx := fun e => (by obtain ⟨cs, hcs⟩ := own_cells hd2.arow e; rw [show _ = _ from hs2] at hcs; simp at hcs)
                refine hK'.out _ _ (hs2.fr (M := fun j => av.ownBlock = some j) (.of_grown hgrow (fun j e => e)) nBx) (fun hs3 => ?_)
                clear hK' K'
                try simp only [Act.put, List.setIfInBounds_toArray, List.set_cons_zero, List.set_cons_succ]
                have v3 := E3.cell 0
                have v4 := E3.frozen 0
                simp at v3
                refine wpAnyH_ready (rs := [5]) (by kernel_rfl) (by simp) ?_
                refine AllReadyH.cons rfl (fun K' hK' => ?_) AllReadyH.nil
                go_simp
                refine hK'.out _ _ (hs3.fr (M := fun j => j = V) (by refine Fr.setCell (Fr.refl _ _) _ _ ?_; rfl) (show Bx ≠ V by omega)) (fun hs4 => ?_)
                clear hK' K'
                try simp only [Act.put, List.setIfInBounds_toArray, List.set_cons_zero, List.set_cons_succ]
                refine wpAnyH_done (by kernel_rfl) ?_ _
                exact FIN _ _ _ E1 ((G2.mono (by rintro j (e | e); exact .inl e; exact .inr (.inr (.inl e)))).trans E2 (by rintro j _ (e | e); exact .inr (.inl e); exact .inr (.inr (.inr e))))
              · go_simp
                refine (joined_any A1 B1 false _ (TY.out.below (Below.refl _ _).drew (Nat.le_refl _)) hA (fun _ => hB)).mono ?_
                rintro _ w1 ⟨rfl, hc1⟩
                refine hK'.out _ _ (hs.below hc1 hs.lt) (fun hs1 => ?_)
                clear hK' K'
                try simp only [Act.put, List.setIfInBounds_toArray, List.set_cons_zero, List.set_cons_succ]
                refine wpAnyH_ready (rs := [0, 3]) (by kernel_rfl) (by simp) ?_
                refine AllReadyH.cons rfl (fun K' hK' => ?_) (AllReadyH.cons rfl (fun K' hK' => ?_) AllReadyH.nil)
                · have v0 := (hid.below hc1).v.cell 0
                  simp at v0
                  go_simp
                  refine hK'.out _ _ hs1 (fun _ => ?_)
                  clear hK' K'
                  try simp only [Act.put, List.setIfInBounds_toArray, List.set_cons_zero, List.set_cons_succ]
                  refine wpAnyH_ready (rs := [3]) (by kernel_rfl) (by simp) ?_
                  refine AllReadyH.cons rfl (fun K' hK' => ?_) AllReadyH.nil
                  go_simp
                  refine hK'.out _ _ (hs1.below ((Below.refl _ _).alloc (Nat.le_refl _) _) hs1.lt) (fun hs2 => ?_)
                  clear hK' K'
                  try simp only [Act.put, List.setIfInBounds_toArray, List.set_cons_zero, List.set_cons_succ]
                  have hd2 := (hid.below hc1).below (W' := w1.alloc (.cells #[.int .i64 (jn A1 B1 false)] 2)) ((Below.refl _ _).alloc (Nat.le_refl _) _)
                  refine wpAnyH_ready (rs := [4]) (by kernel_rfl) (by simp) ?_
                  refine AllReadyH.cons rfl (fun K' hK' => ?_) AllReadyH.nil
                  refine step_app1 rfl _ _ 24 rfl W0.heap.size 2 i0 Tryd.underlying24 hi0 hz0 hz1 hz2 av us.length (us.map (.int .i64)) rfl hd2.arow w1.heap.size 1 (jn A1 B1 false) rfl (by simp [go_sem]) (by omega) (by have := hd2.fr.size; omega) ?_
                  intro g' c' w3 hown hgrow hnew
                  obtain ⟨E1, E2, E3⟩ := G1.appendV (by omega) (by omega) (by omega) (fun e => by have := pl _ e; omega) (((Below.refl _ X1).drew.trans hc1).alloc hc1.size _) hown hgrow hnew
                  have nBx : av.ownBlock ≠ some Bx := fun e => (by obtain ⟨cs, hcs⟩ := own_cells hd2.arow e; rw [show _ = _ from hs2] at hcs; simp at hcs)
                  refine hK'.out _ _ (hs2.fr (M := fun j => av.ownBlock = some j) (.of_grown hgrow (fun j e => e)) nBx) (fun hs3 => ?_)
                  clear hK' K'
                  try simp only [Act.put, List.setIfInBounds_toArray, List.set_cons_zero, List.set_cons_succ]
                  have v3 := E3.cell 0
                  have v4 := E3.frozen 0
                  simp at v3
                  refine wpAnyH_ready (rs := [5]) (by kernel_rfl) (by simp) ?_
                  refine AllReadyH.cons rfl (fun K' hK' => ?_) AllReadyH.nil
                  go_simp
                  refine hK'.out _ _ (hs3.fr (M := fun j => j = V) (by refine Fr.setCell (Fr.refl _ _) _ _ ?_; rfl) (show Bx ≠ V by omega)) (fun hs4 => ?_)
                  clear hK' K'
                  try simp only [Act.put, List.setIfInBounds_toArray, List.set_cons_zero, List.set_cons_succ]
                  refine wpAnyH_done (by kernel_rfl) ?_ _
                  exact FIN _ _ _ E1 ((G2.mono (by rintro j (e | e); exact .inl e; exact .inr (.inr (.inl e)))).trans E2 (by rintro j _ (e | e); exact .inr (.inl e); exact .inr (.inr (.inr e))))
                · go_simp
                  refine hK'.out _ _ (hs1.below ((Below.refl _ _).alloc (Nat.le_refl _) _) hs1.lt) (fun hs2 => ?_)
                  clear hK' K'
                  try simp only [Act.put, List.setIfInBounds_toArray, List.set_cons_zero, List.set_cons_succ]
                  refine wpAnyH_ready (rs := [0]) (by kernel_rfl) (by simp) ?_
                  refine AllReadyH.cons rfl (fun K' hK' => ?_) AllReadyH.nil
                  have v0 := ((hid.below hc1).below (W' := w1.alloc (.cells #[.int .i64 (jn A1 B1 false)] 2)) ((Below.refl _ _).alloc (Nat.le_refl _) _)).v.cell 0
                  simp at v0
                  go_simp
                  refine hK'.out _ _ hs2 (fun _ => ?_)
                  clear hK' K'
                  try simp only [Act.put, List.setIfInBounds_toArray, List.set_cons_zero, List.set_cons_succ]
                  have hd2 := (hid.below hc1).below (W' := w1.alloc (.cells #[.int .i64 (jn A1 B1 false)] 2)) ((Below.refl _ _).alloc (Nat.le_refl _) _)
                  refine wpAnyH_ready (rs := [4]) (by kernel_rfl) (by simp) ?_
                  refine AllReadyH.cons rfl (fun K' hK' => ?_) AllReadyH.nil
                  refine step_app1 rfl _ _ 24 rfl W0.heap.size 2 i0 Tryd.underlying24 hi0 hz0 hz1 hz2 av us.length (us.map (.int .i64)) rfl hd2.arow w1.heap.size 1 (jn A1 B1 false) rfl (by simp [go_sem]) (by omega) (by have := hd2.fr.size; omega) ?_
                  intro g' c' w3 hown hgrow hnew
                  obtain ⟨E1, E2, E3⟩ := G1.appendV (by omega) (by omega) (by omega) (fun e => by have := pl _ e; omega) (((Below.refl _ X1).drew.trans hc1).alloc hc1.size _) hown hgrow hnew
                  have nBx : av.ownBlock ≠ some Bx := fun e => (by obtain ⟨cs, hcs⟩ := own_cells hd2.arow e; rw [show _ = _ from hs2] at hcs; simp at hcs)
                  refine hK'.out _ _ (hs2.fr (M := fun j => av.ownBlock = some j) (.of_grown hgrow (fun j e => e)) nBx) (fun hs3 => ?_)
                  clear hK' K'
                  try simp only [Act.put, List.setIfInBounds_toArray, List.set_cons_zero, List.set_cons_succ]
                  have v3 := E3.cell 0
                  have v4 := E3.frozen 0
                  simp at v3
                  refine wpAnyH_ready (rs := [5]) (by kernel_rfl) (by simp) ?_
                  refine AllReadyH.cons rfl (fun K' hK' => ?_) AllReadyH.nil
                  go_simp
                  refine hK'.out _ _ (hs3.fr (M := fun j => j = V) (by refine Fr.setCell (Fr.refl _ _) _ _ ?_; rfl) (show Bx ≠ V by omega)) (fun hs4 => ?_)
                  clear hK' K'
                  try simp only [Act.put, List.setIfInBounds_toArray, List.set_cons_zero, List.set_cons_succ]
                  refine wpAnyH_done (by kernel_rfl) ?_ _
                  exact FIN _ _ _ E1 ((G2.mono (by rintro j (e | e); exact .inl e; exact .inr (.inr (.inl e)))).trans E2 (by rintro j _ (e | e); exact .inr (.inl e); exact .inr (.inr (.inr e))))
            · go_simp
              refine (BS.out _).mono ?_
              rintro _ w1 ⟨rfl, hc1⟩
              refine hK'.out _ _ ⟨hs.1.below hc1 hs.1.lt, hs.2.below hc1 hs.2.lt⟩ (fun hs1 => ?_)
              clear hK' K'
              try simp only [Act.put, List.setIfInBounds_toArray, List.set_cons_zero, List.set_cons_succ]
              refine wpAnyH_ready (rs := [1, 5]) (by kernel_rfl) (by simp) ?_
              refine AllReadyH.cons rfl (fun K' hK' => ?_) (AllReadyH.cons rfl (fun K' hK' => ?_) AllReadyH.nil)
              · have v0 := (hid.below hc1).c.cell 1
                simp at v0
                go_simp
                refine hK'.out _ _ hs1 (fun _ => ?_)
                clear hK' K'
                try simp only [Act.put, List.setIfInBounds_toArray, List.set_cons_zero, List.set_cons_succ]
                refine wpAnyH_ready (rs := [5]) (by kernel_rfl) (by simp) ?_
                refine AllReadyH.cons rfl (fun K' hK' => ?_) AllReadyH.nil
                go_simp
                refine hK'.out _ _ ⟨hs1.1.below ((Below.refl _ _).alloc (Nat.le_refl _) _) hs1.1.lt, hs1.2.below ((Below.refl _ _).alloc (Nat.le_refl _) _) hs1.2.lt⟩ (fun hs2 => ?_)
                clear hK' K'
                try simp only [Act.put, List.setIfInBounds_toArray, List.set_cons_zero, List.set_cons_succ]
                have hd2 := (hid.below hc1).below (W' := w1.alloc (.cells #[.int .i64 bv] 2)) ((Below.refl _ _).alloc (Nat.le_refl _) _)
                refine wpAnyH_ready (rs := [6]) (by kernel_rfl) (by simp) ?_
                refine AllReadyH.cons rfl (fun K' hK' => ?_) AllReadyH.nil
                refine step_app1 rfl _ _ 24 rfl w.heap.size 2 i0 Tryd.underlying24 hi0 hz0 hz1 hz2 pv' qs.length (qs.map (.int .i64)) rfl hd2.prow w1.heap.size 1 bv rfl (by simp [go_sem]) (by omega) (Nat.le_trans (by omega : w.heap.size ≤ W0.heap.size) hd2.fr.size) ?_
                intro g' c' w3 hown hgrow hnew
                obtain ⟨G1, G2, G3⟩ := hi.appendC (by omega) (by omega) (by omega) hpl.2.2 (fun e => by have := pl _ e; omega) (((Below.refl _ X).drew.trans hc1).alloc hc1.size _) hown hgrow hnew
                have nBx : pv'.ownBlock ≠ some Bx := fun e => (by obtain ⟨cs, hcs⟩ := own_cells hd2.prow e; rw [show _ = _ from hs2.1] at hcs; simp at hcs)
                have nA : pv'.ownBlock ≠ some w.heap.size := fun e => (by rcases hi.old _ e with h4 | h4; omega; exact hpl.1 h4)
                refine hK'.out _ _ ⟨hs2.1.fr (M := fun j => pv'.ownBlock = some j) (.of_grown hgrow (fun j e => e)) nBx, hs2.2.fr (M := fun j => pv'.ownBlock = some j) (.of_grown hgrow (fun j e => e)) nA⟩ (fun hs3 => ?_)
                clear hK' K'
                try simp only [Act.put, List.setIfInBounds_toArray, List.set_cons_zero, List.set_cons_succ]
                refine take_at (i := 7) (d := some 46) (v := .pointer (some ⟨C, 1, none⟩)) rfl rfl (by kernel_rfl) (by kernel_rfl) (by kernel_rfl) (fun _ _ _ h => h) (Or.inl ⟨by rfl, ?z6⟩) (by assumption) ?h6
                case z6 => (intro z hSz; go_simp)
                try simp only [Act.put, List.setIfInBounds_toArray, List.set_cons_zero, List.set_cons_succ]
                have v3 := G3.cell 1
                have v4 := G3.frozen 1
                simp at v3
                refine wpAnyH_ready (rs := [8]) (by kernel_rfl) (by simp) ?_
                refine AllReadyH.cons rfl (fun K' hK' => ?_) AllReadyH.nil
                go_simp
                refine hK'.out _ _ ⟨hs3.1.fr (M := fun j => j = C) (by refine Fr.setCell (Fr.refl _ _) _ _ ?_; rfl) (show Bx ≠ C by omega), hs3.2.fr (M := fun j => j = C) (by refine Fr.setCell (Fr.refl _ _) _ _ ?_; rfl) (show w.heap.size ≠ C by omega)⟩ (fun hs4 => ?_)
                clear hK' K'
                try simp only [Act.put, List.setIfInBounds_toArray, List.set_cons_zero, List.set_cons_succ]
                refine wpAnyH_done (by kernel_rfl) ?_ _
                have bY := hs4.1
                have TY : Hid (Tab _) := TabOf.out _ G1.fr
                clear v3 v4 hs hs1 hs2 hs3 hs4 p0 p1 p2 q0 hid hown hgrow hnew v0 hd2 hc1
                generalize w3.setCell ⟨C, 1, none⟩ (.slice (some ⟨g', 0, none⟩) (qs.length + 1) c') = X1 at *
                gi_wp2_with fail
                refine wpIn_round_held (S := fun u => Blk u Bx #[.int .i64 A1, .int .i64 B1, .bool false] 102) (by kernel_rfl) (by kernel_rfl) (fun ⟨_, _, h⟩ => h) (bY.below (Below.refl _ _).drew bY.lt) (fun hs => ?_)
                have hid := G1.below (W' := X1.drew) (Below.refl _ _).drew
                refine take_at (i := 1) (d := some 48) (v := .agg #[.int .i64 A1, .int .i64 B1, .bool false]) rfl rfl (by kernel_rfl) (by kernel_rfl) (by kernel_rfl) (fun _ _ _ h => h) (Or.inl ⟨by rfl, ?y7⟩) hs ?g7
                case y7 => (intro z hSz; have e0 := hSz.cell 0; have e1 := hSz.cell 1; have e2 := hSz.cell 2; simp at e0 e1 e2; go_simp)
                try simp only [Act.put, List.setIfInBounds_toArray, List.set_cons_zero, List.set_cons_succ]
                refine wpAnyH_ready (rs := [0, 2]) (by kernel_rfl) (by simp) ?_
                refine AllReadyH.cons rfl (fun K' hK' => ?_) (AllReadyH.cons rfl (fun K' hK' => ?_) AllReadyH.nil)
                · have v0 := (hid).v.cell 0
                  simp at v0
                  go_simp
                  refine hK'.out _ _ hs (fun _ => ?_)
                  clear hK' K'
                  try simp only [Act.put, List.setIfInBounds_toArray, List.set_cons_zero, List.set_cons_succ]
                  refine wpAnyH_ready (rs := [2]) (by kernel_rfl) (by simp) ?_
                  refine AllReadyH.cons rfl (fun K' hK' => ?_) AllReadyH.nil
                  go_simp
                  refine (joined_any A1 B1 false _ (TY.out.below (Below.refl _ _).drew (Nat.le_refl _)) hA (fun _ => hB)).mono ?_
                  rintro _ w1 ⟨rfl, hc1⟩
                  refine hK'.out _ _ (hs.below hc1 hs.lt) (fun hs1 => ?_)
                  clear hK' K'
                  try simp only [Act.put, List.setIfInBounds_toArray, List.set_cons_zero, List.set_cons_succ]
                  refine wpAnyH_ready (rs := [3]) (by kernel_rfl) (by simp) ?_
                  refine AllReadyH.cons rfl (fun K' hK' => ?_) AllReadyH.nil
                  go_simp
                  refine hK'.out _ _ (hs1.below ((Below.refl _ _).alloc (Nat.le_refl _) _) hs1.lt) (fun hs2 => ?_)
                  clear hK' K'
                  try simp only [Act.put, List.setIfInBounds_toArray, List.set_cons_zero, List.set_cons_succ]
                  have hd2 := (hid.below hc1).below (W' := w1.alloc (.cells #[.int .i64 (jn A1 B1 false)] 2)) ((Below.refl _ _).alloc (Nat.le_refl _) _)
                  refine wpAnyH_ready (rs := [4]) (by kernel_rfl) (by simp) ?_
                  refine AllReadyH.cons rfl (fun K' hK' => ?_) AllReadyH.nil
                  refine step_app1 rfl _ _ 24 rfl W0.heap.size 2 i0 Tryd.underlying24 hi0 hz0 hz1 hz2 av us.length (us.map (.int .i64)) rfl hd2.arow w1.heap.size 1 (jn A1 B1 false) rfl (by simp [go_sem]) (by omega) (by have := hd2.fr.size; omega) ?_
                  intro g' c' w3 hown hgrow hnew
                  obtain ⟨E1, E2, E3⟩ := G1.appendV (by omega) (by omega) (by omega) (fun e => by have := pl _ e; omega) (((Below.refl _ X1).drew.trans hc1).alloc hc1.size _) hown hgrow hnew
                  have nBx : av.ownBlock ≠ some Bx := fun e => (by obtain ⟨cs, hcs⟩ := own_cells hd2.arow e; rw [show _ = _ from hs2] at hcs; simp at hcs)
                  refine hK'.out _ _ (hs2.fr (M := fun j => av.ownBlock = some j) (.of_grown hgrow (fun j e => e)) nBx) (fun hs3 => ?_)
                  clear hK' K'
                  try simp only [Act.put, List.setIfInBounds_toArray, List.set_cons_zero, List.set_cons_succ]
                  have v3 := E3.cell 0
                  have v4 := E3.frozen 0
                  simp at v3
                  refine wpAnyH_ready (rs := [5]) (by kernel_rfl) (by simp) ?_
                  refine AllReadyH.cons rfl (fun K' hK' => ?_) AllReadyH.nil
                  go_simp
                  refine hK'.out _ _ (hs3.fr (M := fun j => j = V) (by refine Fr.setCell (Fr.refl _ _) _ _ ?_; rfl) (show Bx ≠ V by omega)) (fun hs4 => ?_)
                  clear hK' K'
                  try simp only [Act.put, List.setIfInBounds_toArray, List.set_cons_zero, List.set_cons_succ]
                  refine wpAnyH_done (by kernel_rfl) ?_ _
                  exact FIN _ _ _ E1 ((G2.mono (by rintro j (e | e); exact .inl e; exact .inr (.inr (.inl e)))).trans E2 (by rintro j _ (e | e); exact .inr (.inl e); exact .inr (.inr (.inr e))))
                · go_simp
                  refine (joined_any A1 B1 false _ (TY.out.below (Below.refl _ _).drew (Nat.le_refl _)) hA (fun _ => hB)).mono ?_
                  rintro _ w1 ⟨rfl, hc1⟩
                  refine hK'.out _ _ (hs.below hc1 hs.lt) (fun hs1 => ?_)
                  clear hK' K'
                  try simp only [Act.put, List.setIfInBounds_toArray, List.set_cons_zero, List.set_cons_succ]
                  refine wpAnyH_ready (rs := [0, 3]) (by kernel_rfl) (by simp) ?_
                  refine AllReadyH.cons rfl (fun K' hK' => ?_) (AllReadyH.cons rfl (fun K' hK' => ?_) AllReadyH.nil)
                  · have v0 := (hid.below hc1).v.cell 0
                    simp at v0
                    go_simp
                    refine hK'.out _ _ hs1 (fun _ => ?_)
                    clear hK' K'
                    try simp only [Act.put, List.setIfInBounds_toArray, List.set_cons_zero, List.set_cons_succ]
                    refine wpAnyH_ready (rs := [3]) (by kernel_rfl) (by simp) ?_
                    refine AllReadyH.cons rfl (fun K' hK' => ?_) AllReadyH.nil
                    go_simp
                    refine hK'.out _ _ (hs1.below ((Below.refl _ _).alloc (Nat.le_refl _) _) hs1.lt) (fun hs2 => ?_)
                    clear hK' K'
                    try simp only [Act.put, List.setIfInBounds_toArray, List.set_cons_zero, List.set_cons_succ]
                    have hd2 := (hid.below hc1).below (W' := w1.alloc (.cells #[.int .i64 (jn A1 B1 false)] 2)) ((Below.refl _ _).alloc (Nat.le_refl _) _)
                    refine wpAnyH_ready (rs := [4]) (by kernel_rfl) (by simp) ?_
                    refine AllReadyH.cons rfl (fun K' hK' => ?_) AllReadyH.nil
                    refine step_app1 rfl _ _ 24 rfl W0.heap.size 2 i0 Tryd.underlying24 hi0 hz0 hz1 hz2 av us.length (us.map (.int .i64)) rfl hd2.arow w1.heap.size 1 (jn A1 B1 false) rfl (by simp [go_sem]) (by omega) (by have := hd2.fr.size; omega) ?_
                    intro g' c' w3 hown hgrow hnew
                    obtain ⟨E1, E2, E3⟩ := G1.appendV (by omega) (by omega) (by omega) (fun e => by have := pl _ e; omega) (((Below.refl _ X1).drew.trans hc1).alloc hc1.size _) hown hgrow hnew
                    have nBx : av.ownBlock ≠ some Bx := fun e => (by obtain ⟨cs, hcs⟩ := own_cells hd2.arow e; rw [show _ = _ from hs2] at hcs; simp at hcs)
                    refine hK'.out _ _ (hs2.fr (M := fun j => av.ownBlock = some j) (.of_grown hgrow (fun j e => e)) nBx) (fun hs3 => ?_)
                    clear hK' K'
                    try simp only [Act.put, List.setIfInBounds_toArray, List.set_cons_zero, List.set_cons_succ]
                    have v3 := E3.cell 0
                    have v4 := E3.frozen 0
                    simp at v3
                    refine wpAnyH_ready (rs := [5]) (by kernel_rfl) (by simp) ?_
                    refine AllReadyH.cons rfl (fun K' hK' => ?_) AllReadyH.nil
                    go_simp
                    refine hK'.out _ _ (hs3.fr (M := fun j => j = V) (by refine Fr.setCell (Fr.refl _ _) _ _ ?_; rfl) (show Bx ≠ V by omega)) (fun hs4 => ?_)
                    clear hK' K'
                    try simp only [Act.put, List.setIfInBounds_toArray, List.set_cons_zero, List.set_cons_succ]
                    refine wpAnyH_done (by kernel_rfl) ?_ _
                    exact FIN _ _ _ E1 ((G2.mono (by rintro j (e | e); exact .inl e; exact .inr (.inr (.inl e)))).trans E2 (by rintro j _ (e | e); exact .inr (.inl e); exact .inr (.inr (.inr e))))
                  · go_simp
                    refine hK'.out _ _ (hs1.below ((Below.refl _ _).alloc (Nat.le_refl _) _) hs1.lt) (fun hs2 => ?_)
                    clear hK' K'
                    try simp only [Act.put, List.setIfInBounds_toArray, List.set_cons_zero, List.set_cons_succ]
                    refine wpAnyH_ready (rs := [0]) (by kernel_rfl) (by simp) ?_
                    refine AllReadyH.cons rfl (fun K' hK' => ?_) AllReadyH.nil
                    have v0 := ((hid.below hc1).below (W' := w1.alloc (.cells #[.int .i64 (jn A1 B1 false)] 2)) ((Below.refl _ _).alloc (Nat.le_refl _) _)).v.cell 0
                    simp at v0
                    go_simp
                    refine hK'.out _ _ hs2 (fun _ => ?_)
                    clear hK' K'
                    try simp only [Act.put, List.setIfInBounds_toArray, List.set_cons_zero, List.set_cons_succ]
                    have hd2 := (hid.below hc1).below (W' := w1.alloc (.cells #[.int .i64 (jn A1 B1 false)] 2)) ((Below.refl _ _).alloc (Nat.le_refl _) _)
                    refine wpAnyH_ready (rs := [4]) (by kernel_rfl) (by simp) ?_
                    refine AllReadyH.cons rfl (fun K' hK' => ?_) AllReadyH.nil
                    refine step_app1 rfl _ _ 24 rfl W0.heap.size 2 i0 Tryd.underlying24 hi0 hz0 hz1 hz2 av us.length (us.map (.int .i64)) rfl hd2.arow w1.heap.size 1 (jn A1 B1 false) rfl (by simp [go_sem]) (by omega) (by have := hd2.fr.size; omega) ?_
                    intro g' c' w3 hown hgrow hnew
                    obtain ⟨E1, E2, E3⟩ := G1.appendV (by omega) (by omega) (by omega) (fun e => by have := pl _ e; omega) (((Below.refl _ X1).drew.trans hc1).alloc hc1.size _) hown hgrow hnew
                    have nBx : av.ownBlock ≠ some Bx := fun e => (by obtain ⟨cs, hcs⟩ := own_cells hd2.arow e; rw [show _ = _ from hs2] at hcs; simp at hcs)
                    refine hK'.out _ _ (hs2.fr (M := fun j => av.ownBlock = some j) (.of_grown hgrow (fun j e => e)) nBx) (fun hs3 => ?_)
                    clear hK' K'
                    try simp only [Act.put, List.setIfInBounds_toArray, List.set_cons_zero, List.set_cons_succ]
                    have v3 := E3.cell 0
                    have v4 := E3.frozen 0
                    simp at v3
                    refine wpAnyH_ready (rs := [5]) (by kernel_rfl) (by simp) ?_
                    refine AllReadyH.cons rfl (fun K' hK' => ?_) AllReadyH.nil
                    go_simp
                    refine hK'.out _ _ (hs3.fr (M := fun j => j = V) (by refine Fr.setCell (Fr.refl _ _) _ _ ?_; rfl) (show Bx ≠ V by omega)) (fun hs4 => ?_)
                    clear hK' K'
                    try simp only [Act.put, List.setIfInBounds_toArray, List.set_cons_zero, List.set_cons_succ]
                    refine wpAnyH_done (by kernel_rfl) ?_ _
                    exact FIN _ _ _ E1 ((G2.mono (by rintro j (e | e); exact .inl e; exact .inr (.inr (.inl e)))).trans E2 (by rintro j _ (e | e); exact .inr (.inl e); exact .inr (.inr (.inr e))))
              · go_simp
                refine hK'.out _ _ ⟨hs1.1.below ((Below.refl _ _).alloc (Nat.le_refl _) _) hs1.1.lt, hs1.2.below ((Below.refl _ _).alloc (Nat.le_refl _) _) hs1.2.lt⟩ (fun hs2 => ?_)
                clear hK' K'
                try simp only [Act.put, List.setIfInBounds_toArray, List.set_cons_zero, List.set_cons_succ]
                refine wpAnyH_ready (rs := [1]) (by kernel_rfl) (by simp) ?_
                refine AllReadyH.cons rfl (fun K' hK' => ?_) AllReadyH.nil
                have v0 := ((hid.below hc1).below (W' := w1.alloc (.cells #[.int .i64 bv] 2)) ((Below.refl _ _).alloc (Nat.le_refl _) _)).c.cell 1
                simp at v0
                go_simp
                refine hK'.out _ _ hs2 (fun _ => ?_)
                clear hK' K'
                try simp only [Act.put, List.setIfInBounds_toArray, List.set_cons_zero, List.set_cons_succ]
                have hd2 := (hid.below hc1).below (W' := w1.alloc (.cells #[.int .i64 bv] 2)) ((Below.refl _ _).alloc (Nat.le_refl _) _)
                refine wpAnyH_ready (rs := [6]) (by kernel_rfl) (by simp) ?_
                refine AllReadyH.cons rfl (fun K' hK' => ?_) AllReadyH.nil
                refine step_app1 rfl _ _ 24 rfl w.heap.size 2 i0 Tryd.underlying24 hi0 hz0 hz1 hz2 pv' qs.length (qs.map (.int .i64)) rfl hd2.prow w1.heap.size 1 bv rfl (by simp [go_sem]) (by omega) (Nat.le_trans (by omega : w.heap.size ≤ W0.heap.size) hd2.fr.size) ?_
                intro g' c' w3 hown hgrow hnew
                obtain ⟨G1, G2, G3⟩ := hi.appendC (by omega) (by omega) (by omega) hpl.2.2 (fun e => by have := pl _ e; omega) (((Below.refl _ X).drew.trans hc1).alloc hc1.size _) hown hgrow hnew
                have nBx : pv'.ownBlock ≠ some Bx := fun e => (by obtain ⟨cs, hcs⟩ := own_cells hd2.prow e; rw [show _ = _ from hs2.1] at hcs; simp at hcs)
                have nA : pv'.ownBlock ≠ some w.heap.size := fun e => (by rcases hi.old _ e with h4 | h4; omega; exact hpl.1 h4)
                refine hK'.out _ _ ⟨hs2.1.fr (M := fun j => pv'.ownBlock = some j) (.of_grown hgrow (fun j e => e)) nBx, hs2.2.fr (M := fun j => pv'.ownBlock = some j) (.of_grown hgrow (fun j e => e)) nA⟩ (fun hs3 => ?_)
                clear hK' K'
                try simp only [Act.put, List.setIfInBounds_toArray, List.set_cons_zero, List.set_cons_succ]
                refine take_at (i := 7) (d := some 46) (v := .pointer (some ⟨C, 1, none⟩)) rfl rfl (by kernel_rfl) (by kernel_rfl) (by kernel_rfl) (fun _ _ _ h => h) (Or.inl ⟨by rfl, ?z8⟩) (by assumption) ?h8
                case z8 => (intro z hSz; go_simp)
                try simp only [Act.put, List.setIfInBounds_toArray, List.set_cons_zero, List.set_cons_succ]
                have v3 := G3.cell 1
                have v4 := G3.frozen 1
                simp at v3
                refine wpAnyH_ready (rs := [8]) (by kernel_rfl) (by simp) ?_
                refine AllReadyH.cons rfl (fun K' hK' => ?_) AllReadyH.nil
                go_simp
                refine hK'.out _ _ ⟨hs3.1.fr (M := fun j => j = C) (by refine Fr.setCell (Fr.refl _ _) _ _ ?_; rfl) (show Bx ≠ C by omega), hs3.2.fr (M := fun j => j = C) (by refine Fr.setCell (Fr.refl _ _) _ _ ?_; rfl) (show w.heap.size ≠ C by omega)⟩ (fun hs4 => ?_)
                clear hK' K'
                try simp only [Act.put, List.setIfInBounds_toArray, List.set_cons_zero, List.set_cons_succ]
                refine wpAnyH_done (by kernel_rfl) ?_ _
                have bY := hs4.1
                have TY : Hid (Tab _) := TabOf.out _ G1.fr
                clear v3 v4 hs hs1 hs2 hs3 hs4 p0 p1 p2 q0 hid hown hgrow hnew v0 hd2 hc1
                generalize w3.setCell ⟨C, 1, none⟩ (.slice (some ⟨g', 0, none⟩) (qs.length + 1) c') = X1 at *
                gi_wp2_with fail
                refine wpIn_round_held (S := fun u => Blk u Bx #[.int .i64 A1, .int .i64 B1, .bool false] 102) (by kernel_rfl) (by kernel_rfl) (fun ⟨_, _, h⟩ => h) (bY.below (Below.refl _ _).drew bY.lt) (fun hs => ?_)
                have hid := G1.below (W' := X1.drew) (Below.refl _ _).drew
                refine take_at (i := 1) (d := some 48) (v := .agg #[.int .i64 A1, .int .i64 B1, .bool false]) rfl rfl (by kernel_rfl) (by kernel_rfl) (by kernel_rfl) (fun _ _ _ h => h) (Or.inl ⟨by rfl, ?y9⟩) hs ?g9
                case y9 => (intro z hSz; have e0 := hSz.cell 0; have e1 := hSz.cell 1; have e2 := hSz.cell 2; simp at e0 e1 e2; go_simp)
                try simp only [Act.put, List.setIfInBounds_toArray, List.set_cons_zero, List.set_cons_succ]
                refine wpAnyH_ready (rs := [0, 2]) (by kernel_rfl) (by simp) ?_
                refine AllReadyH.cons rfl (fun K' hK' => ?_) (AllReadyH.cons rfl (fun K' hK' => ?_) AllReadyH.nil)
                · have v0 := (hid).v.cell 0
                  simp at v0
                  go_simp
                  refine hK'.out _ _ hs (fun _ => ?_)
                  clear hK' K'
                  try simp only [Act.put, List.setIfInBounds_toArray, List.set_cons_zero, List.set_cons_succ]
                  refine wpAnyH_ready (rs := [2]) (by kernel_rfl) (by simp) ?_
                  refine AllReadyH.cons rfl (fun K' hK' => ?_) AllReadyH.nil
                  go_simp
                  refine (joined_any A1 B1 false _ (TY.out.below (Below.refl _ _).drew (Nat.le_refl _)) hA (fun _ => hB)).mono ?_
                  rintro _ w1 ⟨rfl, hc1⟩
                  refine hK'.out _ _ (hs.below hc1 hs.lt) (fun hs1 => ?_)
                  clear hK' K'
                  try simp only [Act.put, List.setIfInBounds_toArray, List.set_cons_zero, List.set_cons_succ]
                  refine wpAnyH_ready (rs := [3]) (by kernel_rfl) (by simp) ?_
                  refine AllReadyH.cons rfl (fun K' hK' => ?_) AllReadyH.nil
                  go_simp
                  refine hK'.out _ _ (hs1.below ((Below.refl _ _).alloc (Nat.le_refl _) _) hs1.lt) (fun hs2 => ?_)
                  clear hK' K'
                  try simp only [Act.put, List.setIfInBounds_toArray, List.set_cons_zero, List.set_cons_succ]
                  have hd2 := (hid.below hc1).below (W' := w1.alloc (.cells #[.int .i64 (jn A1 B1 false)] 2)) ((Below.refl _ _).alloc (Nat.le_refl _) _)
                  refine wpAnyH_ready (rs := [4]) (by kernel_rfl) (by simp) ?_
                  refine AllReadyH.cons rfl (fun K' hK' => ?_) AllReadyH.nil
                  refine step_app1 rfl _ _ 24 rfl W0.heap.size 2 i0 Tryd.underlying24 hi0 hz0 hz1 hz2 av us.length (us.map (.int .i64)) rfl hd2.arow w1.heap.size 1 (jn A1 B1 false) rfl (by simp [go_sem]) (by omega) (by have := hd2.fr.size; omega) ?_
                  intro g' c' w3 hown hgrow hnew
                  obtain ⟨E1, E2, E3⟩ := G1.appendV (by omega) (by omega) (by omega) (fun e => by have := pl _ e; omega) (((Below.refl _ X1).drew.trans hc1).alloc hc1.size _) hown hgrow hnew
                  have nBx : av.ownBlock ≠ some Bx := fun e => (by obtain ⟨cs, hcs⟩ := own_cells hd2.arow e; rw [show _ = _ from hs2] at hcs; simp at hcs)
                  refine hK'.out _ _ (hs2.fr (M := fun j => av.ownBlock = some j) (.of_grown hgrow (fun j e => e)) nBx) (fun hs3 => ?_)
                  clear hK' K'
                  try simp only [Act.put, List.setIfInBounds_toArray, List.set_cons_zero, List.set_cons_succ]
                  have v3 := E3.cell 0
                  have v4 := E3.frozen 0
                  simp at v3
                  refine wpAnyH_ready (rs := [5]) (by kernel_rfl) (by simp) ?_
                  refine AllReadyH.cons rfl (fun K' hK' => ?_) AllReadyH.nil
                  go_simp
                  refine hK'.out _ _ (hs3.fr (M := fun j => j = V) (by refine Fr.setCell (Fr.refl _ _) _ _ ?_; rfl) (show Bx ≠ V by omega)) (fun hs4 => ?_)
                  clear hK' K'
                  try simp only [Act.put, List.setIfInBounds_toArray, List.set_cons_zero, List.set_cons_succ]
                  refine wpAnyH_done (by kernel_rfl) ?_ _
                  exact FIN _ _ _ E1 ((G2.mono (by rintro j (e | e); exact .inl e; exact .inr (.inr (.inl e)))).trans E2 (by rintro j _ (e | e); exact .inr (.inl e); exact .inr (.inr (.inr e))))
                · go_simp
                  refine (joined_any A1 B1 false _ (TY.out.below (Below.refl _ _).drew (Nat.le_refl _)) hA (fun _ => hB)).mono ?_
                  rintro _ w1 ⟨rfl, hc1⟩
                  refine hK'.out _ _ (hs.below hc1 hs.lt) (fun hs1 => ?_)
                  clear hK' K'
                  try simp only [Act.put, List.setIfInBounds_toArray, List.set_cons_zero, List.set_cons_succ]
                  refine wpAnyH_ready (rs := [0, 3]) (by kernel_rfl) (by simp) ?_
                  refine AllReadyH.cons rfl (fun K' hK' => ?_) (AllReadyH.cons rfl (fun K' hK' => ?_) AllReadyH.nil)
                  · have v0 := (hid.below hc1).v.cell 0
                    simp at v0
                    go_simp
                    refine hK'.out _ _ hs1 (fun _ => ?_)
                    clear hK' K'
                    try simp only [Act.put, List.setIfInBounds_toArray, List.set_cons_zero, List.set_cons_succ]
                    refine wpAnyH_ready (rs := [3]) (by kernel_rfl) (by simp) ?_
                    refine AllReadyH.cons rfl (fun K' hK' => ?_) AllReadyH.nil
                    go_simp
                    refine hK'.out _ _ (hs1.below ((Below.refl _ _).alloc (Nat.le_refl _) _) hs1.lt) (fun hs2 => ?_)
                    clear hK' K'
                    try simp only [Act.put, List.setIfInBounds_toArray, List.set_cons_zero, List.set_cons_succ]
                    have hd2 := (hid.below hc1).below (W' := w1.alloc (.cells #[.int .i64 (jn A1 B1 false)] 2)) ((Below.refl _ _).alloc (Nat.le_refl _) _)
                    refine wpAnyH_ready (rs := [4]) (by kernel_rfl) (by simp) ?_
                    refine AllReadyH.cons rfl (fun K' hK' => ?_) AllReadyH.nil
                    refine step_app1 rfl _ _ 24 rfl W0.heap.size 2 i0 Tryd.underlying24 hi0 hz0 hz1 hz2 av us.length (us.map (.int .i64)) rfl hd2.arow w1.heap.size 1 (jn A1 B1 false) rfl (by simp [go_sem]) (by omega) (by have := hd2.fr.size; omega) ?_
                    intro g' c' w3 hown hgrow hnew
                    obtain ⟨E1, E2, E3⟩ := G1.appendV (by omega) (by omega) (by omega) (fun e => by have := pl _ e; omega) (((Below.refl _ X1).drew.trans hc1).alloc hc1.size _) hown hgrow hnew
                    have nBx : av.ownBlock ≠ some Bx := fun e => (by obtain ⟨cs, hcs⟩ := own_cells hd2.arow e; rw [show _ = _ from hs2] at hcs; simp at hcs)
                    refine hK'.out _ _ (hs2.fr (M := fun j => av.ownBlock = some j) (.of_grown hgrow (fun j e => e)) nBx) (fun hs3 => ?_)
                    clear hK' K'
                    try simp only [Act.put, List.setIfInBounds_toArray, List.set_cons_zero, List.set_cons_succ]
                    have v3 := E3.cell 0
                    have v4 := E3.frozen 0
                    simp at v3
                    refine wpAnyH_ready (rs := [5]) (by kernel_rfl) (by simp) ?_
                    refine AllReadyH.cons rfl (fun K' hK' => ?_) AllReadyH.nil
                    go_simp
                    refine hK'.out _ _ (hs3.fr (M := fun j => j = V) (by refine Fr.setCell (Fr.refl _ _) _ _ ?_; rfl) (show Bx ≠ V by omega)) (fun hs4 => ?_)
                    clear hK' K'
                    try simp only [Act.put, List.setIfInBounds_toArray, List.set_cons_zero, List.set_cons_succ]
                    refine wpAnyH_done (by kernel_rfl) ?_ _
                    exact FIN _ _ _ E1 ((G2.mono (by rintro j (e | e); exact .inl e; exact .inr (.inr (.inl e)))).trans E2 (by rintro j _ (e | e); exact .inr (.inl e); exact .inr (.inr (.inr e))))
                  · go_simp
                    refine hK'.out _ _ (hs1.below ((Below.refl _ _).alloc (Nat.le_refl _) _) hs1.lt) (fun hs2 => ?_)
                    clear hK' K'
                    try simp only [Act.put, List.setIfInBounds_toArray, List.set_cons_zero, List.set_cons_succ]
                    refine wpAnyH_ready (rs := [0]) (by kernel_rfl) (by simp) ?_
                    refine AllReadyH.cons rfl (fun K' hK' => ?_) AllReadyH.nil
                    have v0 := ((hid.below hc1).below (W' := w1.alloc (.cells #[.int .i64 (jn A1 B1 false)] 2)) ((Below.refl _ _).alloc (Nat.le_refl _) _)).v.cell 0
                    simp at v0
                    go_simp
                    refine hK'.out _ _ hs2 (fun _ => ?_)
                    clear hK' K'
                    try simp only [Act.put, List.setIfInBounds_toArray, List.set_cons_zero, List.set_cons_succ]
                    have hd2 := (hid.below hc1).below (W' := w1.alloc (.cells #[.int .i64 (jn A1 B1 false)] 2)) ((Below.refl _ _).alloc (Nat.le_refl _) _)
                    refine wpAnyH_ready (rs := [4]) (by kernel_rfl) (by simp) ?_
                    refine AllReadyH.cons rfl (fun K' hK' => ?_) AllReadyH.nil
                    refine step_app1 rfl _ _ 24 rfl W0.heap.size 2 i0 Tryd.underlying24 hi0 hz0 hz1 hz2 av us.length (us.map (.int .i64)) rfl hd2.arow w1.heap.size 1 (jn A1 B1 false) rfl (by simp [go_sem]) (by omega) (by have := hd2.fr.size; omega) ?_
                    intro g' c' w3 hown hgrow hnew
                    obtain ⟨E1, E2, E3⟩ := G1.appendV (by omega) (by omega) (by omega) (fun e => by have := pl _ e; omega) (((Below.refl _ X1).drew.trans hc1).alloc hc1.size _) hown hgrow hnew
                    have nBx : av.ownBlock ≠ some Bx := fun e => (by obtain ⟨cs, hcs⟩ := own_cells hd2.arow e; rw [show _ = _ from hs2] at hcs; simp at hcs)
                    refine hK'.out _ _ (hs2.fr (M := fun j => av.ownBlock = some j) (.of_grown hgrow (fun j e => e)) nBx) (fun hs3 => ?_)
                    clear hK' K'
                    try simp only [Act.put, List.setIfInBounds_toArray, List.set_cons_zero, List.set_cons_succ]
                    have v3 := E3.cell 0
                    have v4 := E3.frozen 0
                    simp at v3
                    refine wpAnyH_ready (rs := [5]) (by kernel_rfl) (by simp) ?_
                    refine AllReadyH.cons rfl (fun K' hK' => ?_) AllReadyH.nil
                    go_simp
                    refine hK'.out _ _ (hs3.fr (M := fun j => j = V) (by refine Fr.setCell (Fr.refl _ _) _ _ ?_; rfl) (show Bx ≠ V by omega)) (fun hs4 => ?_)
                    clear hK' K'
                    try simp only [Act.put, List.setIfInBounds_toArray, List.set_cons_zero, List.set_cons_succ]
                    refine wpAnyH_done (by kernel_rfl) ?_ _
                    exact FIN _ _ _ E1 ((G2.mono (by rintro j (e | e); exact .inl e; exact .inr (.inr (.inl e)))).trans E2 (by rintro j _ (e | e); exact .inr (.inl e); exact .inr (.inr (.inr e))))
          · have hk0' : ((k : Int) == 0) = false := by simpa using hk0
            clear hk0
            gi_wp2_with fail
            refine wpIn_round_held (S := fun u => Blk u Bx #[.int .i64 A1, .int .i64 B1, .bool false] 102 ∧ Blk u w.heap.size #[.int .i64 a'] 2) (by kernel_rfl) (by kernel_rfl) (fun ⟨_, _, h⟩ => h) ⟨bX.below (Below.refl _ _).drew bX.lt, AX.below (Below.refl _ _).drew AX.lt⟩ (fun hs => ?_)
            have hid := hi.below (W' := X.drew) (Below.refl _ _).drew
            refine take_at (i := 0) (d := some 39) (v := .pointer (some ⟨C, 1, none⟩)) rfl rfl (by kernel_rfl) (by kernel_rfl) (by kernel_rfl) (fun _ _ _ h => h) (Or.inl ⟨by rfl, ?z10⟩) (by assumption) ?h10
            case z10 => (intro z hSz; go_simp)
            try simp only [Act.put, List.setIfInBounds_toArray, List.set_cons_zero, List.set_cons_succ]
            refine take_at (i := 2) (d := some 41) (v := .agg #[.int .i64 A1, .int .i64 B1, .bool false]) rfl rfl (by kernel_rfl) (by kernel_rfl) (by kernel_rfl) (fun _ _ _ h => h) (Or.inl ⟨by rfl, ?z11⟩) (by assumption) ?h11
            case z11 => (intro z hSz; have e0 := hSz.1.cell 0; have e1 := hSz.1.cell 1; have e2 := hSz.1.cell 2; simp at e0 e1 e2; go_simp)
            try simp only [Act.put, List.setIfInBounds_toArray, List.set_cons_zero, List.set_cons_succ]
            refine take_at (i := 3) (d := some 42) (v := .int .i64 a') rfl rfl (by kernel_rfl) (by kernel_rfl) (by kernel_rfl) (fun _ _ _ h => h) (Or.inl ⟨by rfl, ?z12⟩) (by assumption) ?h12
            case z12 => (intro z hSz; have e0 := hSz.2.cell 0; simp at e0; go_simp)
            try simp only [Act.put, List.setIfInBounds_toArray, List.set_cons_zero, List.set_cons_succ]
            refine wpAnyH_ready (rs := [1, 4]) (by kernel_rfl) (by simp) ?_
            refine AllReadyH.cons rfl (fun K' hK' => ?_) (AllReadyH.cons rfl (fun K' hK' => ?_) AllReadyH.nil)
            · have v0 := (hid).c.cell 1
              simp at v0
              go_simp
              refine hK'.out _ _ hs (fun _ => ?_)
              clear hK' K'
              try simp only [Act.put, List.setIfInBounds_toArray, List.set_cons_zero, List.set_cons_succ]
              refine wpAnyH_ready (rs := [4]) (by kernel_rfl) (by simp) ?_
              refine AllReadyH.cons rfl (fun K' hK' => ?_) AllReadyH.nil
              go_simp
              refine (BS.out _).mono ?_
              rintro _ w1 ⟨rfl, hc1⟩
              refine hK'.out _ _ ⟨hs.1.below hc1 hs.1.lt, hs.2.below hc1 hs.2.lt⟩ (fun hs1 => ?_)
              clear hK' K'
              try simp only [Act.put, List.setIfInBounds_toArray, List.set_cons_zero, List.set_cons_succ]
              refine wpAnyH_ready (rs := [5]) (by kernel_rfl) (by simp) ?_
              refine AllReadyH.cons rfl (fun K' hK' => ?_) AllReadyH.nil
              go_simp
              refine hK'.out _ _ ⟨hs1.1.below ((Below.refl _ _).alloc (Nat.le_refl _) _) hs1.1.lt, hs1.2.below ((Below.refl _ _).alloc (Nat.le_refl _) _) hs1.2.lt⟩ (fun hs2 => ?_)
              clear hK' K'
              try simp only [Act.put, List.setIfInBounds_toArray, List.set_cons_zero, List.set_cons_succ]
              have hd2 := (hid.below hc1).below (W' := w1.alloc (.cells #[.int .i64 bv] 2)) ((Below.refl _ _).alloc (Nat.le_refl _) _)
              refine wpAnyH_ready (rs := [6]) (by kernel_rfl) (by simp) ?_
              refine AllReadyH.cons rfl (fun K' hK' => ?_) AllReadyH.nil
              refine step_app1 rfl _ _ 24 rfl w.heap.size 2 i0 Tryd.underlying24 hi0 hz0 hz1 hz2 pv' qs.length (qs.map (.int .i64)) rfl hd2.prow w1.heap.size 1 bv rfl (by simp [go_sem]) (by omega) (Nat.le_trans (by omega : w.heap.size ≤ W0.heap.size) hd2.fr.size) ?_
              intro g' c' w3 hown hgrow hnew
              obtain ⟨G1, G2, G3⟩ := hi.appendC (by omega) (by omega) (by omega) hpl.2.2 (fun e => by have := pl _ e; omega) (((Below.refl _ X).drew.trans hc1).alloc hc1.size _) hown hgrow hnew
              have nBx : pv'.ownBlock ≠ some Bx := fun e => (by obtain ⟨cs, hcs⟩ := own_cells hd2.prow e; rw [show _ = _ from hs2.1] at hcs; simp at hcs)
              have nA : pv'.ownBlock ≠ some w.heap.size := fun e => (by rcases hi.old _ e with h4 | h4; omega; exact hpl.1 h4)
              refine hK'.out _ _ ⟨hs2.1.fr (M := fun j => pv'.ownBlock = some j) (.of_grown hgrow (fun j e => e)) nBx, hs2.2.fr (M := fun j => pv'.ownBlock = some j) (.of_grown hgrow (fun j e => e)) nA⟩ (fun hs3 => ?_)
              clear hK' K'
              try simp only [Act.put, List.setIfInBounds_toArray, List.set_cons_zero, List.set_cons_succ]
              refine take_at (i := 7) (d := some 46) (v := .pointer (some ⟨C, 1, none⟩)) rfl rfl (by kernel_rfl) (by kernel_rfl) (by kernel_rfl) (fun _ _ _ h => h) (Or.inl ⟨by rfl, ?z13⟩) (by assumption) ?h13
              case z13 => (intro z hSz; go_simp)
              try simp only [Act.put, List.setIfInBounds_toArray, List.set_cons_zero, List.set_cons_succ]
              have v3 := G3.cell 1
              have v4 := G3.frozen 1
              simp at v3
              refine wpAnyH_ready (rs := [8]) (by kernel_rfl) (by simp) ?_
              refine AllReadyH.cons rfl (fun K' hK' => ?_) AllReadyH.nil
              go_simp
              refine hK'.out _ _ ⟨hs3.1.fr (M := fun j => j = C) (by refine Fr.setCell (Fr.refl _ _) _ _ ?_; rfl) (show Bx ≠ C by omega), hs3.2.fr (M := fun j => j = C) (by refine Fr.setCell (Fr.refl _ _) _ _ ?_; rfl) (show w.heap.size ≠ C by omega)⟩ (fun hs4 => ?_)
              clear hK' K'
              try simp only [Act.put, List.setIfInBounds_toArray, List.set_cons_zero, List.set_cons_succ]
              refine wpAnyH_done (by kernel_rfl) ?_ _
              have bY := hs4.1
              have TY : Hid (Tab _) := TabOf.out _ G1.fr
              clear v3 v4 hs hs1 hs2 hs3 hs4 p0 p1 p2 q0 hid hown hgrow hnew v0 hd2 hc1
              generalize w3.setCell ⟨C, 1, none⟩ (.slice (some ⟨g', 0, none⟩) (qs.length + 1) c') = X1 at *
              gi_wp2_with fail
              refine wpIn_round_held (S := fun u => Blk u Bx #[.int .i64 A1, .int .i64 B1, .bool false] 102) (by kernel_rfl) (by kernel_rfl) (fun ⟨_, _, h⟩ => h) (bY.below (Below.refl _ _).drew bY.lt) (fun hs => ?_)
              have hid := G1.below (W' := X1.drew) (Below.refl _ _).drew
              refine take_at (i := 1) (d := some 48) (v := .agg #[.int .i64 A1, .int .i64 B1, .bool false]) rfl rfl (by kernel_rfl) (by kernel_rfl) (by kernel_rfl) (fun _ _ _ h => h) (Or.inl ⟨by rfl, ?y14⟩) hs ?g14
              case y14 => (intro z hSz; have e0 := hSz.cell 0; have e1 := hSz.cell 1; have e2 := hSz.cell 2; simp at e0 e1 e2; go_simp)
              try simp only [Act.put, List.setIfInBounds_toArray, List.set_cons_zero, List.set_cons_succ]
              refine wpAnyH_ready (rs := [0, 2]) (by kernel_rfl) (by simp) ?_
              refine AllReadyH.cons rfl (fun K' hK' => ?_) (AllReadyH.cons rfl (fun K' hK' => ?_) AllReadyH.nil)
              · have v0 := (hid).v.cell 0
                simp at v0
                go_simp
                refine hK'.out _ _ hs (fun _ => ?_)
                clear hK' K'
                try simp only [Act.put, List.setIfInBounds_toArray, List.set_cons_zero, List.set_cons_succ]
                refine wpAnyH_ready (rs := [2]) (by kernel_rfl) (by simp) ?_
                refine AllReadyH.cons rfl (fun K' hK' => ?_) AllReadyH.nil
                go_simp
                refine (joined_any A1 B1 false _ (TY.out.below (Below.refl _ _).drew (Nat.le_refl _)) hA (fun _ => hB)).mono ?_
                rintro _ w1 ⟨rfl, hc1⟩
                refine hK'.out _ _ (hs.below hc1 hs.lt) (fun hs1 => ?_)
                clear hK' K'
                try simp only [Act.put, List.setIfInBounds_toArray, List.set_cons_zero, List.set_cons_succ]
                refine wpAnyH_ready (rs := [3]) (by kernel_rfl) (by simp) ?_
                refine AllReadyH.cons rfl (fun K' hK' => ?_) AllReadyH.nil
                go_simp
                refine hK'.out _ _ (hs1.below ((Below.refl _ _).alloc (Nat.le_refl _) _) hs1.lt) (fun hs2 => ?_)
                clear hK' K'
                try simp only [Act.put, List.setIfInBounds_toArray, List.set_cons_zero, List.set_cons_succ]
                have hd2 := (hid.below hc1).below (W' := w1.alloc (.cells #[.int .i64 (jn A1 B1 false)] 2)) ((Below.refl _ _).alloc (Nat.le_refl _) _)
                refine wpAnyH_ready (rs := [4]) (by kernel_rfl) (by simp) ?_
                refine AllReadyH.cons rfl (fun K' hK' => ?_) AllReadyH.nil
                refine step_app1 rfl _ _ 24 rfl W0.heap.size 2 i0 Tryd.underlying24 hi0 hz0 hz1 hz2 av us.length (us.map (.int .i64)) rfl hd2.arow w1.heap.size 1 (jn A1 B1 false) rfl (by simp [go_sem]) (by omega) (by have := hd2.fr.size; omega) ?_
                intro g' c' w3 hown hgrow hnew
                obtain ⟨E1, E2, E3⟩ := G1.appendV (by omega) (by omega) (by omega) (fun e => by have := pl _ e; omega) (((Below.refl _ X1).drew.trans hc1).alloc hc1.size _) hown hgrow hnew
                have nBx : av.ownBlock ≠ some Bx := fun e => (by obtain ⟨cs, hcs⟩ := own_cells hd2.arow e; rw [show _ = _ from hs2] at hcs; simp at hcs)
                refine hK'.out _ _ (hs2.fr (M := fun j => av.ownBlock = some j) (.of_grown hgrow (fun j e => e)) nBx) (fun hs3 => ?_)
                clear hK' K'
                try simp only [Act.put, List.setIfInBounds_toArray, List.set_cons_zero, List.set_cons_succ]
                have v3 := E3.cell 0
                have v4 := E3.frozen 0
                simp at v3
                refine wpAnyH_ready (rs := [5]) (by kernel_rfl) (by simp) ?_
                refine AllReadyH.cons rfl (fun K' hK' => ?_) AllReadyH.nil
                go_simp
                refine hK'.out _ _ (hs3.fr (M := fun j => j = V) (by refine Fr.setCell (Fr.refl _ _) _ _ ?_; rfl) (show Bx ≠ V by omega)) (fun hs4 => ?_)
                clear hK' K'
                try simp only [Act.put, List.setIfInBounds_toArray, List.set_cons_zero, List.set_cons_succ]
                refine wpAnyH_done (by kernel_rfl) ?_ _
                exact FIN _ _ _ E1 ((G2.mono (by rintro j (e | e); exact .inl e; exact .inr (.inr (.inl e)))).trans E2 (by rintro j _ (e | e); exact .inr (.inl e); exact .inr (.inr (.inr e))))
              · go_simp
                refine (joined_any A1 B1 false _ (TY.out.below (Below.refl _ _).drew (Nat.le_refl _)) hA (fun _ => hB)).mono ?_
                rintro _ w1 ⟨rfl, hc1⟩
                refine hK'.out _ _ (hs.below hc1 hs.lt) (fun hs1 => ?_)
                clear hK' K'
                try simp only [Act.put, List.setIfInBounds_toArray, List.set_cons_zero, List.set_cons_succ]
                refine wpAnyH_ready (rs := [0, 3]) (by kernel_rfl) (by simp) ?_
                refine AllReadyH.cons rfl (fun K' hK' => ?_) (AllReadyH.cons rfl (fun K' hK' => ?_) AllReadyH.nil)
                · have v0 := (hid.below hc1).v.cell 0
                  simp at v0
                  go_simp
                  refine hK'.out _ _ hs1 (fun _ => ?_)
                  clear hK' K'
                  try simp only [Act.put, List.setIfInBounds_toArray, List.set_cons_zero, List.set_cons_succ]
                  refine wpAnyH_ready (rs := [3]) (by kernel_rfl) (by simp) ?_
                  refine AllReadyH.cons rfl (fun K' hK' => ?_) AllReadyH.nil
                  go_simp
                  refine hK'.out _ _ (hs1.below ((Below.refl _ _).alloc (Nat.le_refl _) _) hs1.lt) (fun hs2 => ?_)
                  clear hK' K'
                  try simp only [Act.put, List.setIfInBounds_toArray, List.set_cons_zero, List.set_cons_succ]
                  have hd2 := (hid.below hc1).below (W' := w1.alloc (.cells #[.int .i64 (jn A1 B1 false)] 2)) ((Below.refl _ _).alloc (Nat.le_refl _) _)
                  refine wpAnyH_ready (rs := [4]) (by kernel_rfl) (by simp) ?_
                  refine AllReadyH.cons rfl (fun K' hK' => ?_) AllReadyH.nil
                  refine step_app1 rfl _ _ 24 rfl W0.heap.size 2 i0 Tryd.underlying24 hi0 hz0 hz1 hz2 av us.length (us.map (.int .i64)) rfl hd2.arow w1.heap.size 1 (jn A1 B1 false) rfl (by simp [go_sem]) (by omega) (by have := hd2.fr.size; omega) ?_
                  intro g' c' w3 hown hgrow hnew
                  obtain ⟨E1, E2, E3⟩ := G1.appendV (by omega) (by omega) (by omega) (fun e => by have := pl _ e; omega) (((Below.refl _ X1).drew.trans hc1).alloc hc1.size _) hown hgrow hnew
                  have nBx : av.ownBlock ≠ some Bx := fun e => (by obtain ⟨cs, hcs⟩ := own_cells hd2.arow e; rw [show _ = _ from hs2] at hcs; simp at hcs)
                  refine hK'.out _ _ (hs2.fr (M := fun j => av.ownBlock = some j) (.of_grown hgrow (fun j e => e)) nBx) (fun hs3 => ?_)
                  clear hK' K'
                  try simp only [Act.put, List.setIfInBounds_toArray, List.set_cons_zero, List.set_cons_succ]
                  have v3 := E3.cell 0
                  have v4 := E3.frozen 0
                  simp at v3
                  refine wpAnyH_ready (rs := [5]) (by kernel_rfl) (by simp) ?_
                  refine AllReadyH.cons rfl (fun K' hK' => ?_) AllReadyH.nil
                  go_simp
                  refine hK'.out _ _ (hs3.fr (M := fun j => j = V) (by refine Fr.setCell (Fr.refl _ _) _ _ ?_; rfl) (show Bx ≠ V by omega)) (fun hs4 => ?_)
                  clear hK' K'
                  try simp only [Act.put, List.setIfInBounds_toArray, List.set_cons_zero, List.set_cons_succ]
                  refine wpAnyH_done (by kernel_rfl) ?_ _
                  exact FIN _ _ _ E1 ((G2.mono (by rintro j (e | e); exact .inl e; exact .inr (.inr (.inl e)))).trans E2 (by rintro j _ (e | e); exact .inr (.inl e); exact .inr (.inr (.inr e))))
                · go_simp
                  refine hK'.out _ _ (hs1.below ((Below.refl _ _).alloc (Nat.le_refl _) _) hs1.lt) (fun hs2 => ?_)
                  clear hK' K'
                  try simp only [Act.put, List.setIfInBounds_toArray, List.set_cons_zero, List.set_cons_succ]
                  refine wpAnyH_ready (rs := [0]) (by kernel_rfl) (by simp) ?_
                  refine AllReadyH.cons rfl (fun K' hK' => ?_) AllReadyH.nil
                  have v0 := ((hid.below hc1).below (W' := w1.alloc (.cells #[.int .i64 (jn A1 B1 false)] 2)) ((Below.refl _ _).alloc (Nat.le_refl _) _)).v.cell 0
                  simp at v0
                  go_simp
                  refine hK'.out _ _ hs2 (fun _ => ?_)
                  clear hK' K'
                  try simp only [Act.put, List.setIfInBounds_toArray, List.set_cons_zero, List.set_cons_succ]
                  have hd2 := (hid.below hc1).below (W' := w1.alloc (.cells #[.int .i64 (jn A1 B1 false)] 2)) ((Below.refl _ _).alloc (Nat.le_refl _) _)
                  refine wpAnyH_ready (rs := [4]) (by kernel_rfl) (by simp) ?_
                  refine AllReadyH.cons rfl (fun K' hK' => ?_) AllReadyH.nil
                  refine step_app1 rfl _ _ 24 rfl W0.heap.size 2 i0 Tryd.underlying24 hi0 hz0 hz1 hz2 av us.length (us.map (.int .i64)) rfl hd2.arow w1.heap.size 1 (jn A1 B1 false) rfl (by simp [go_sem]) (by omega) (by have := hd2.fr.size; omega) ?_
                  intro g' c' w3 hown hgrow hnew
                  obtain ⟨E1, E2, E3⟩ := G1.appendV (by omega) (by omega) (by omega) (fun e => by have := pl _ e; omega) (((Below.refl _ X1).drew.trans hc1).alloc hc1.size _) hown hgrow hnew
                  have nBx : av.ownBlock ≠ some Bx := fun e => (by obtain ⟨cs, hcs⟩ := own_cells hd2.arow e; rw [show _ = _ from hs2] at hcs; simp at hcs)
                  refine hK'.out _ _ (hs2.fr (M := fun j => av.ownBlock = some j) (.of_grown hgrow (fun j e => e)) nBx) (fun hs3 => ?_)
                  clear hK' K'
                  try simp only [Act.put, List.setIfInBounds_toArray, List.set_cons_zero, List.set_cons_succ]
                  have v3 := E3.cell 0
                  have v4 := E3.frozen 0
                  simp at v3
                  refine wpAnyH_ready (rs := [5]) (by kernel_rfl) (by simp) ?_
                  refine AllReadyH.cons rfl (fun K' hK' => ?_) AllReadyH.nil
                  go_simp
                  refine hK'.out _ _ (hs3.fr (M := fun j => j = V) (by refine Fr.setCell (Fr.refl _ _) _ _ ?_; rfl) (show Bx ≠ V by omega)) (fun hs4 => ?_)
                  clear hK' K'
                  try simp only [Act.put, List.setIfInBounds_toArray, List.set_cons_zero, List.set_cons_succ]
                  refine wpAnyH_done (by kernel_rfl) ?_ _
                  exact FIN _ _ _ E1 ((G2.mono (by rintro j (e | e); exact .inl e; exact .inr (.inr (.inl e)))).trans E2 (by rintro j _ (e | e); exact .inr (.inl e); exact .inr (.inr (.inr e))))
            · go_simp
              refine (BS.out _).mono ?_
              rintro _ w1 ⟨rfl, hc1⟩
              refine hK'.out _ _ ⟨hs.1.below hc1 hs.1.lt, hs.2.below hc1 hs.2.lt⟩ (fun hs1 => ?_)
              clear hK' K'
              try simp only [Act.put, List.setIfInBounds_toArray, List.set_cons_zero, List.set_cons_succ]
              refine wpAnyH_ready (rs := [1, 5]) (by kernel_rfl) (by simp) ?_
              refine AllReadyH.cons rfl (fun K' hK' => ?_) (AllReadyH.cons rfl (fun K' hK' => ?_) AllReadyH.nil)
              · have v0 := (hid.below hc1).c.cell 1
                simp at v0
                go_simp
                refine hK'.out _ _ hs1 (fun _ => ?_)
                clear hK' K'
                try simp only [Act.put, List.setIfInBounds_toArray, List.set_cons_zero, List.set_cons_succ]
                refine wpAnyH_ready (rs := [5]) (by kernel_rfl) (by simp) ?_
                refine AllReadyH.cons rfl (fun K' hK' => ?_) AllReadyH.nil
                go_simp
                refine hK'.out _ _ ⟨hs1.1.below ((Below.refl _ _).alloc (Nat.le_refl _) _) hs1.1.lt, hs1.2.below ((Below.refl _ _).alloc (Nat.le_refl _) _) hs1.2.lt⟩ (fun hs2 => ?_)
                clear hK' K'
                try simp only [Act.put, List.setIfInBounds_toArray, List.set_cons_zero, List.set_cons_succ]
                have hd2 := (hid.below hc1).below (W' := w1.alloc (.cells #[.int .i64 bv] 2)) ((Below.refl _ _).alloc (Nat.le_refl _) _)
                refine wpAnyH_ready (rs := [6]) (by kernel_rfl) (by simp) ?_
                refine AllReadyH.cons rfl (fun K' hK' => ?_) AllReadyH.nil
                refine step_app1 rfl _ _ 24 rfl w.heap.size 2 i0 Tryd.underlying24 hi0 hz0 hz1 hz2 pv' qs.length (qs.map (.int .i64)) rfl hd2.prow w1.heap.size 1 bv rfl (by simp [go_sem]) (by omega) (Nat.le_trans (by omega : w.heap.size ≤ W0.heap.size) hd2.fr.size) ?_
                intro g' c' w3 hown hgrow hnew
                obtain ⟨G1, G2, G3⟩ := hi.appendC (by omega) (by omega) (by omega) hpl.2.2 (fun e => by have := pl _ e; omega) (((Below.refl _ X).drew.trans hc1).alloc hc1.size _) hown hgrow hnew
                have nBx : pv'.ownBlock ≠ some Bx := fun e => (by obtain ⟨cs, hcs⟩ := own_cells hd2.prow e; rw [show _ = _ from hs2.1] at hcs; simp at hcs)
                have nA : pv'.ownBlock ≠ some w.heap.size := fun e => (by rcases hi.old _ e with h4 | h4; omega; exact hpl.1 h4)
                refine hK'.out _ _ ⟨hs2.1.fr (M := fun j => pv'.ownBlock = some j) (.of_grown hgrow (fun j e => e)) nBx, hs2.2.fr (M := fun j => pv'.ownBlock = some j) (.of_grown hgrow (fun j e => e)) nA⟩ (fun hs3 => ?_)
                clear hK' K'
                try simp only [Act.put, List.setIfInBounds_toArray, List.set_cons_zero, List.set_cons_succ]
                refine take_at (i := 7) (d := some 46) (v := .pointer (some ⟨C, 1, none⟩)) rfl rfl (by kernel_rfl) (by kernel_rfl) (by kernel_rfl) (fun _ _ _ h => h) (Or.inl ⟨by rfl, ?z15⟩) (by assumption) ?h15
                case z15 => (intro z hSz; go_simp)
                try simp only [Act.put, List.setIfInBounds_toArray, List.set_cons_zero, List.set_cons_succ]
                have v3 := G3.cell 1
                have v4 := G3.frozen 1
                simp at v3
                refine wpAnyH_ready (rs := [8]) (by kernel_rfl) (by simp) ?_
                refine AllReadyH.cons rfl (fun K' hK' => ?_) AllReadyH.nil
                go_simp
                refine hK'.out _ _ ⟨hs3.1.fr (M := fun j => j = C) (by refine Fr.setCell (Fr.refl _ _) _ _ ?_; rfl) (show Bx ≠ C by omega), hs3.2.fr (M := fun j => j = C) (by refine Fr.setCell (Fr.refl _ _) _ _ ?_; rfl) (show w.heap.size ≠ C by omega)⟩ (fun hs4 => ?_)
                clear hK' K'
                try simp only [Act.put, List.setIfInBounds_toArray, List.set_cons_zero, List.set_cons_succ]
                refine wpAnyH_done (by kernel_rfl) ?_ _
                have bY := hs4.1
                have TY : Hid (Tab _) := TabOf.out _ G1.fr
                clear v3 v4 hs hs1 hs2 hs3 hs4 p0 p1 p2 q0 hid hown hgrow hnew v0 hd2 hc1
                generalize w3.setCell ⟨C, 1, none⟩ (.slice (some ⟨g', 0, none⟩) (qs.length + 1) c') = X1 at *
                gi_wp2_with fail
                refine wpIn_round_held (S := fun u => Blk u Bx #[.int .i64 A1, .int .i64 B1, .bool false] 102) (by kernel_rfl) (by kernel_rfl) (fun ⟨_, _, h⟩ => h) (bY.below (Below.refl _ _).drew bY.lt) (fun hs => ?_)
                have hid := G1.below (W' := X1.drew) (Below.refl _ _).drew
                refine take_at (i := 1) (d := some 48) (v := .agg #[.int .i64 A1, .int .i64 B1, .bool false]) rfl rfl (by kernel_rfl) (by kernel_rfl) (by kernel_rfl) (fun _ _ _ h => h) (Or.inl ⟨by rfl, ?y16⟩) hs ?g16
                case y16 => (intro z hSz; have e0 := hSz.cell 0; have e1 := hSz.cell 1; have e2 := hSz.cell 2; simp at e0 e1 e2; go_simp)
                try simp only [Act.put, List.setIfInBounds_toArray, List.set_cons_zero, List.set_cons_succ]
                refine wpAnyH_ready (rs := [0, 2]) (by kernel_rfl) (by simp) ?_
                refine AllReadyH.cons rfl (fun K' hK' => ?_) (AllReadyH.cons rfl (fun K' hK' => ?_) AllReadyH.nil)
                · have v0 := (hid).v.cell 0
                  simp at v0
                  go_simp
                  refine hK'.out _ _ hs (fun _ => ?_)
                  clear hK' K'
                  try simp only [Act.put, List.setIfInBounds_toArray, List.set_cons_zero, List.set_cons_succ]
                  refine wpAnyH_ready (rs := [2]) (by kernel_rfl) (by simp) ?_
                  refine AllReadyH.cons rfl (fun K' hK' => ?_) AllReadyH.nil
                  go_simp
                  refine (joined_any A1 B1 false _ (TY.out.below (Below.refl _ _).drew (Nat.le_refl _)) hA (fun _ => hB)).mono ?_
                  rintro _ w1 ⟨rfl, hc1⟩
                  refine hK'.out _ _ (hs.below hc1 hs.lt) (fun hs1 => ?_)
                  clear hK' K'
                  try simp only [Act.put, List.setIfInBounds_toArray, List.set_cons_zero, List.set_cons_succ]
                  refine wpAnyH_ready (rs := [3]) (by kernel_rfl) (by simp) ?_
                  refine AllReadyH.cons rfl (fun K' hK' => ?_) AllReadyH.nil
                  go_simp
                  refine hK'.out _ _ (hs1.below ((Below.refl _ _).alloc (Nat.le_refl _) _) hs1.lt) (fun hs2 => ?_)
                  clear hK' K'
                  try simp only [Act.put, List.setIfInBounds_toArray, List.set_cons_zero, List.set_cons_succ]
                  have hd2 := (hid.below hc1).below (W' := w1.alloc (.cells #[.int .i64 (jn A1 B1 false)] 2)) ((Below.refl _ _).alloc (Nat.le_refl _) _)
                  refine wpAnyH_ready (rs := [4]) (by kernel_rfl) (by simp) ?_
                  refine AllReadyH.cons rfl (fun K' hK' => ?_) AllReadyH.nil
                  refine step_app1 rfl _ _ 24 rfl W0.heap.size 2 i0 Tryd.underlying24 hi0 hz0 hz1 hz2 av us.length (us.map (.int .i64)) rfl hd2.arow w1.heap.size 1 (jn A1 B1 false) rfl (by simp [go_sem]) (by omega) (by have := hd2.fr.size; omega) ?_
                  intro g' c' w3 hown hgrow hnew
                  obtain ⟨E1, E2, E3⟩ := G1.appendV (by omega) (by omega) (by omega) (fun e => by have := pl _ e; omega) (((Below.refl _ X1).drew.trans hc1).alloc hc1.size _) hown hgrow hnew
                  have nBx : av.ownBlock ≠ some Bx := fun e => (by obtain ⟨cs, hcs⟩ := own_cells hd2.arow e; rw [show _ = _ from hs2] at hcs; simp at hcs)
                  refine hK'.out _ _ (hs2.fr (M := fun j => av.ownBlock = some j) (.of_grown hgrow (fun j e => e)) nBx) (fun hs3 => ?_)
                  clear hK' K'
                  try simp only [Act.put, List.setIfInBounds_toArray, List.set_cons_zero, List.set_cons_succ]
                  have v3 := E3.cell 0
                  have v4 := E3.frozen 0
                  simp at v3
                  refine wpAnyH_ready (rs := [5]) (by kernel_rfl) (by simp) ?_
                  refine AllReadyH.cons rfl (fun K' hK' => ?_) AllReadyH.nil
                  go_simp
                  refine hK'.out _ _ (hs3.fr (M := fun j => j = V) (by refine Fr.setCell (Fr.refl _ _) _ _ ?_; rfl) (show Bx ≠ V by omega)) (fun hs4 => ?_)
                  clear hK' K'
                  try simp only [Act.put, List.setIfInBounds_toArray, List.set_cons_zero, List.set_cons_succ]
                  refine wpAnyH_done (by kernel_rfl) ?_ _
                  exact FIN _ _ _ E1 ((G2.mono (by rintro j (e | e); exact .inl e; exact .inr (.inr (.inl e)))).trans E2 (by rintro j _ (e | e); exact .inr (.inl e); exact .inr (.inr (.inr e))))
                · go_simp
                  refine (joined_any A1 B1 false _ (TY.out.below (Below.refl _ _).drew (Nat.le_refl _)) hA (fun _ => hB)).mono ?_
                  rintro _ w1 ⟨rfl, hc1⟩
                  refine hK'.out _ _ (hs.below hc1 hs.lt) (fun hs1 => ?_)
                  clear hK' K'
                  try simp only [Act.put, List.setIfInBounds_toArray, List.set_cons_zero, List.set_cons_succ]
                  refine wpAnyH_ready (rs := [0, 3]) (by kernel_rfl) (by simp) ?_
                  refine AllReadyH.cons rfl (fun K' hK' => ?_) (AllReadyH.cons rfl (fun K' hK' => ?_) AllReadyH.nil)
                  · have v0 := (hid.below hc1).v.cell 0
                    simp at v0
                    go_simp
                    refine hK'.out _ _ hs1 (fun _ => ?_)
                    clear hK' K'
                    try simp only [Act.put, List.setIfInBounds_toArray, List.set_cons_zero, List.set_cons_succ]
                    refine wpAnyH_ready (rs := [3]) (by kernel_rfl) (by simp) ?_
                    refine AllReadyH.cons rfl (fun K' hK' => ?_) AllReadyH.nil
                    go_simp
                    refine hK'.out _ _ (hs1.below ((Below.refl _ _).alloc (Nat.le_refl _) _) hs1.lt) (fun hs2 => ?_)
                    clear hK' K'
                    try simp only [Act.put, List.setIfInBounds_toArray, List.set_cons_zero, List.set_cons_succ]
                    have hd2 := (hid.below hc1).below (W' := w1.alloc (.cells #[.int .i64 (jn A1 B1 false)] 2)) ((Below.refl _ _).alloc (Nat.le_refl _) _)
                    refine wpAnyH_ready (rs := [4]) (by kernel_rfl) (by simp) ?_
                    refine AllReadyH.cons rfl (fun K' hK' => ?_) AllReadyH.nil
                    refine step_app1 rfl _ _ 24 rfl W0.heap.size 2 i0 Tryd.underlying24 hi0 hz0 hz1 hz2 av us.length (us.map (.int .i64)) rfl hd2.arow w1.heap.size 1 (jn A1 B1 false) rfl (by simp [go_sem]) (by omega) (by have := hd2.fr.size; omega) ?_
                    intro g' c' w3 hown hgrow hnew
                    obtain ⟨E1, E2, E3⟩ := G1.appendV (by omega) (by omega) (by omega) (fun e => by have := pl _ e; omega) (((Below.refl _ X1).drew.trans hc1).alloc hc1.size _) hown hgrow hnew
                    have nBx : av.ownBlock ≠ some Bx := fun e => (by obtain ⟨cs, hcs⟩ := own_cells hd2.arow e; rw [show _ = _ from hs2] at hcs; simp at hcs)
                    refine hK'.out _ _ (hs2.fr (M := fun j => av.ownBlock = some j) (.of_grown hgrow (fun j e => e)) nBx) (fun hs3 => ?_)
                    clear hK' K'
                    try simp only [Act.put, List.setIfInBounds_toArray, List.set_cons_zero, List.set_cons_succ]
                    have v3 := E3.cell 0
                    have v4 := E3.frozen 0
                    simp at v3
                    refine wpAnyH_ready (rs := [5]) (by kernel_rfl) (by simp) ?_
                    refine AllReadyH.cons rfl (fun K' hK' => ?_) AllReadyH.nil
                    go_simp
                    refine hK'.out _ _ (hs3.fr (M := fun j => j = V) (by refine Fr.setCell (Fr.refl _ _) _ _ ?_; rfl) (show Bx ≠ V by omega)) (fun hs4 => ?_)
                    clear hK' K'
                    try simp only [Act.put, List.setIfInBounds_toArray, List.set_cons_zero, List.set_cons_succ]
                    refine wpAnyH_done (by kernel_rfl) ?_ _
                    exact FIN _ _ _ E1 ((G2.mono (by rintro j (e | e); exact .inl e; exact .inr (.inr (.inl e)))).trans E2 (by rintro j _ (e | e); exact .inr (.inl e); exact .inr (.inr (.inr e))))
                  · go_simp
                    refine hK'.out _ _ (hs1.below ((Below.refl _ _).alloc (Nat.le_refl _) _) hs1.lt) (fun hs2 => ?_)
                    clear hK' K'
                    try simp only [Act.put, List.setIfInBounds_toArray, List.set_cons_zero, List.set_cons_succ]
                    refine wpAnyH_ready (rs := [0]) (by kernel_rfl) (by simp) ?_
                    refine AllReadyH.cons rfl (fun K' hK' => ?_) AllReadyH.nil
                    have v0 := ((hid.below hc1).below (W' := w1.alloc (.cells #[.int .i64 (jn A1 B1 false)] 2)) ((Below.refl _ _).alloc (Nat.le_refl _) _)).v.cell 0
                    simp at v0
                    go_simp
                    refine hK'.out _ _ hs2 (fun _ => ?_)
                    clear hK' K'
                    try simp only [Act.put, List.setIfInBounds_toArray, List.set_cons_zero, List.set_cons_succ]
                    have hd2 := (hid.below hc1).below (W' := w1.alloc (.cells #[.int .i64 (jn A1 B1 false)] 2)) ((Below.refl _ _).alloc (Nat.le_refl _) _)
                    refine wpAnyH_ready (rs := [4]) (by kernel_rfl) (by simp) ?_
                    refine AllReadyH.cons rfl (fun K' hK' => ?_) AllReadyH.nil
                    refine step_app1 rfl _ _ 24 rfl W0.heap.size 2 i0 Tryd.underlying24 hi0 hz0 hz1 hz2 av us.length (us.map (.int .i64)) rfl hd2.arow w1.heap.size 1 (jn A1 B1 false) rfl (by simp [go_sem]) (by omega) (by have := hd2.fr.size; omega) ?_
                    intro g' c' w3 hown hgrow hnew
                    obtain ⟨E1, E2, E3⟩ := G1.appendV (by omega) (by omega) (by omega) (fun e => by have := pl _ e; omega) (((Below.refl _ X1).drew.trans hc1).alloc hc1.size _) hown hgrow hnew
                    have nBx : av.ownBlock ≠ some Bx := fun e => (by obtain ⟨cs, hcs⟩ := own_cells hd2.arow e; rw [show _ = _ from hs2] at hcs; simp at hcs)
                    refine hK'.out _ _ (hs2.fr (M := fun j => av.ownBlock = some j) (.of_grown hgrow (fun j e => e)) nBx) (fun hs3 => ?_)
                    clear hK' K'
                    try simp only [Act.put, List.setIfInBounds_toArray, List.set_cons_zero, List.set_cons_succ]
                    have v3 := E3.cell 0
                    have v4 := E3.frozen 0
                    simp at v3
                    refine wpAnyH_ready (rs := [5]) (by kernel_rfl) (by simp) ?_
                    refine AllReadyH.cons rfl (fun K' hK' => ?_) AllReadyH.nil
                    go_simp
                    refine hK'.out _ _ (hs3.fr (M := fun j => j = V) (by refine Fr.setCell (Fr.refl _ _) _ _ ?_; rfl) (show Bx ≠ V by omega)) (fun hs4 => ?_)
                    clear hK' K'
                    try simp only [Act.put, List.setIfInBounds_toArray, List.set_cons_zero, List.set_cons_succ]
                    refine wpAnyH_done (by kernel_rfl) ?_ _
                    exact FIN _ _ _ E1 ((G2.mono (by rintro j (e | e); exact .inl e; exact .inr (.inr (.inl e)))).trans E2 (by rintro j _ (e | e); exact .inr (.inl e); exact .inr (.inr (.inr e))))
              · go_simp
                refine hK'.out _ _ ⟨hs1.1.below ((Below.refl _ _).alloc (Nat.le_refl _) _) hs1.1.lt, hs1.2.below ((Below.refl _ _).alloc (Nat.le_refl _) _) hs1.2.lt⟩ (fun hs2 => ?_)
                clear hK' K'
                try simp only [Act.put, List.setIfInBounds_toArray, List.set_cons_zero, List.set_cons_succ]
                refine wpAnyH_ready (rs := [1]) (by kernel_rfl) (by simp) ?_
                refine AllReadyH.cons rfl (fun K' hK' => ?_) AllReadyH.nil
                have v0 := ((hid.below hc1).below (W' := w1.alloc (.cells #[.int .i64 bv] 2)) ((Below.refl _ _).alloc (Nat.le_refl _) _)).c.cell 1
                simp at v0
                go_simp
                refine hK'.out _ _ hs2 (fun _ => ?_)
                clear hK' K'
                try simp only [Act.put, List.setIfInBounds_toArray, List.set_cons_zero, List.set_cons_succ]
                have hd2 := (hid.below hc1).below (W' := w1.alloc (.cells #[.int .i64 bv] 2)) ((Below.refl _ _).alloc (Nat.le_refl _) _)
                refine wpAnyH_ready (rs := [6]) (by kernel_rfl) (by simp) ?_
                refine AllReadyH.cons rfl (fun K' hK' => ?_) AllReadyH.nil
                refine step_app1 rfl _ _ 24 rfl w.heap.size 2 i0 Tryd.underlying24 hi0 hz0 hz1 hz2 pv' qs.length (qs.map (.int .i64)) rfl hd2.prow w1.heap.size 1 bv rfl (by simp [go_sem]) (by omega) (Nat.le_trans (by omega : w.heap.size ≤ W0.heap.size) hd2.fr.size) ?_
                intro g' c' w3 hown hgrow hnew
                obtain ⟨G1, G2, G3⟩ := hi.appendC (by omega) (by omega) (by omega) hpl.2.2 (fun e => by have := pl _ e; omega) (((Below.refl _ X).drew.trans hc1).alloc hc1.size _) hown hgrow hnew
                have nBx : pv'.ownBlock ≠ some Bx := fun e => (by obtain ⟨cs, hcs⟩ := own_cells hd2.prow e; rw [show _ = _ from hs2.1] at hcs; simp at hcs)
                have nA : pv'.ownBlock ≠ some w.heap.size := fun e => (by rcases hi.old _ e with h4 | h4; omega; exact hpl.1 h4)
                refine hK'.out _ _ ⟨hs2.1.fr (M := fun j => pv'.ownBlock = some j) (.of_grown hgrow (fun j e => e)) nBx, hs2.2.fr (M := fun j => pv'.ownBlock = some j) (.of_grown hgrow (fun j e => e)) nA⟩ (fun hs3 => ?_)
                clear hK' K'
                try simp only [Act.put, List.setIfInBounds_toArray, List.set_cons_zero, List.set_cons_succ]
                refine take_at (i := 7) (d := some 46) (v := .pointer (some ⟨C, 1, none⟩)) rfl rfl (by kernel_rfl) (by kernel_rfl) (by kernel_rfl) (fun _ _ _ h => h) (Or.inl ⟨by rfl, ?z17⟩) (by assumption) ?h17
                case z17 => (intro z hSz; go_simp)
                try simp only [Act.put, List.setIfInBounds_toArray, List.set_cons_zero, List.set_cons_succ]
                have v3 := G3.cell 1
                have v4 := G3.frozen 1
                simp at v3
                refine wpAnyH_ready (rs := [8]) (by kernel_rfl) (by simp) ?_
                refine AllReadyH.cons rfl (fun K' hK' => ?_) AllReadyH.nil
                go_simp
                refine hK'.out _ _ ⟨hs3.1.fr (M := fun j => j = C) (by refine Fr.setCell (Fr.refl _ _) _ _ ?_; rfl) (show Bx ≠ C by omega), hs3.2.fr (M := fun j => j = C) (by refine Fr.setCell (Fr.refl _ _) _ _ ?_; rfl) (show w.heap.size ≠ C by omega)⟩ (fun hs4 => ?_)
                clear hK' K'
                try simp only [Act.put, List.setIfInBounds_toArray, List.set_cons_zero, List.set_cons_succ]
                refine wpAnyH_done (by kernel_rfl) ?_ _
                have bY := hs4.1
                have TY : Hid (Tab _) := TabOf.out _ G1.fr
                clear v3 v4 hs hs1 hs2 hs3 hs4 p0 p1 p2 q0 hid hown hgrow hnew v0 hd2 hc1
                generalize w3.setCell ⟨C, 1, none⟩ (.slice (some ⟨g', 0, none⟩) (qs.length + 1) c') = X1 at *
                gi_wp2_with fail
                refine wpIn_round_held (S := fun u => Blk u Bx #[.int .i64 A1, .int .i64 B1, .bool false] 102) (by kernel_rfl) (by kernel_rfl) (fun ⟨_, _, h⟩ => h) (bY.below (Below.refl _ _).drew bY.lt) (fun hs => ?_)
                have hid := G1.below (W' := X1.drew) (Below.refl _ _).drew
                refine take_at (i := 1) (d := some 48) (v := .agg #[.int .i64 A1, .int .i64 B1, .bool false]) rfl rfl (by kernel_rfl) (by kernel_rfl) (by kernel_rfl) (fun _ _ _ h => h) (Or.inl ⟨by rfl, ?y18⟩) hs ?g18
                case y18 => (intro z hSz; have e0 := hSz.cell 0; have e1 := hSz.cell 1; have e2 := hSz.cell 2; simp at e0 e1 e2; go_simp)
                try simp only [Act.put, List.setIfInBounds_toArray, List.set_cons_zero, List.set_cons_succ]
                refine wpAnyH_ready (rs := [0, 2]) (by kernel_rfl) (by simp) ?_
                refine AllReadyH.cons rfl (fun K' hK' => ?_) (AllReadyH.cons rfl (fun K' hK' => ?_) AllReadyH.nil)
                · have v0 := (hid).v.cell 0
                  simp at v0
                  go_simp
                  refine hK'.out _ _ hs (fun _ => ?_)
                  clear hK' K'
                  try simp only [Act.put, List.setIfInBounds_toArray, List.set_cons_zero, List.set_cons_succ]
                  refine wpAnyH_ready (rs := [2]) (by kernel_rfl) (by simp) ?_
                  refine AllReadyH.cons rfl (fun K' hK' => ?_) AllReadyH.nil
                  go_simp
                  refine (joined_any A1 B1 false _ (TY.out.below (Below.refl _ _).drew (Nat.le_refl _)) hA (fun _ => hB)).mono ?_
                  rintro _ w1 ⟨rfl, hc1⟩
                  refine hK'.out _ _ (hs.below hc1 hs.lt) (fun hs1 => ?_)
                  clear hK' K'
                  try simp only [Act.put, List.setIfInBounds_toArray, List.set_cons_zero, List.set_cons_succ]
                  refine wpAnyH_ready (rs := [3]) (by kernel_rfl) (by simp) ?_
                  refine AllReadyH.cons rfl (fun K' hK' => ?_) AllReadyH.nil
                  go_simp
                  refine hK'.out _ _ (hs1.below ((Below.refl _ _).alloc (Nat.le_refl _) _) hs1.lt) (fun hs2 => ?_)
                  clear hK' K'
                  try simp only [Act.put, List.setIfInBounds_toArray, List.set_cons_zero, List.set_cons_succ]
                  have hd2 := (hid.below hc1).below (W' := w1.alloc (.cells #[.int .i64 (jn A1 B1 false)] 2)) ((Below.refl _ _).alloc (Nat.le_refl _) _)
                  refine wpAnyH_ready (rs := [4]) (by kernel_rfl) (by simp) ?_
                  refine AllReadyH.cons rfl (fun K' hK' => ?_) AllReadyH.nil
                  refine step_app1 rfl _ _ 24 rfl W0.heap.size 2 i0 Tryd.underlying24 hi0 hz0 hz1 hz2 av us.length (us.map (.int .i64)) rfl hd2.arow w1.heap.size 1 (jn A1 B1 false) rfl (by simp [go_sem]) (by omega) (by have := hd2.fr.size; omega) ?_
                  intro g' c' w3 hown hgrow hnew
                  obtain ⟨E1, E2, E3⟩ := G1.appendV (by omega) (by omega) (by omega) (fun e => by have := pl _ e; omega) (((Below.refl _ X1).drew.trans hc1).alloc hc1.size _) hown hgrow hnew
                  have nBx : av.ownBlock ≠ some Bx := fun e => (by obtain ⟨cs, hcs⟩ := own_cells hd2.arow e; rw [show _ = _ from hs2] at hcs; simp at hcs)
                  refine hK'.out _ _ (hs2.fr (M := fun j => av.ownBlock = some j) (.of_grown hgrow (fun j e => e)) nBx) (fun hs3 => ?_)
                  clear hK' K'
                  try simp only [Act.put, List.setIfInBounds_toArray, List.set_cons_zero, List.set_cons_succ]
                  have v3 := E3.cell 0
                  have v4 := E3.frozen 0
                  simp at v3
                  refine wpAnyH_ready (rs := [5]) (by kernel_rfl) (by simp) ?_
                  refine AllReadyH.cons rfl (fun K' hK' => ?_) AllReadyH.nil
                  go_simp
                  refine hK'.out _ _ (hs3.fr (M := fun j => j = V) (by refine Fr.setCell (Fr.refl _ _) _ _ ?_; rfl) (show Bx ≠ V by omega)) (fun hs4 => ?_)
                  clear hK' K'
                  try simp only [Act.put, List.setIfInBounds_toArray, List.set_cons_zero, List.set_cons_succ]
                  refine wpAnyH_done (by kernel_rfl) ?_ _
                  exact FIN _ _ _ E1 ((G2.mono (by rintro j (e | e); exact .inl e; exact .inr (.inr (.inl e)))).trans E2 (by rintro j _ (e | e); exact .inr (.inl e); exact .inr (.inr (.inr e))))
                · go_simp
                  refine (joined_any A1 B1 false _ (TY.out.below (Below.refl _ _).drew (Nat.le_refl _)) hA (fun _ => hB)).mono ?_
                  rintro _ w1 ⟨rfl, hc1⟩
                  refine hK'.out _ _ (hs.below hc1 hs.lt) (fun hs1 => ?_)
                  clear hK' K'
                  try simp only [Act.put, List.setIfInBounds_toArray, List.set_cons_zero, List.set_cons_succ]
                  refine wpAnyH_ready (rs := [0, 3]) (by kernel_rfl) (by simp) ?_
                  refine AllReadyH.cons rfl (fun K' hK' => ?_) (AllReadyH.cons rfl (fun K' hK' => ?_) AllReadyH.nil)
                  · have v0 := (hid.below hc1).v.cell 0
                    simp at v0
                    go_simp
                    refine hK'.out _ _ hs1 (fun _ => ?_)
                    clear hK' K'
                    try simp only [Act.put, List.setIfInBounds_toArray, List.set_cons_zero, List.set_cons_succ]
                    refine wpAnyH_ready (rs := [3]) (by kernel_rfl) (by simp) ?_
                    refine AllReadyH.cons rfl (fun K' hK' => ?_) AllReadyH.nil
                    go_simp
                    refine hK'.out _ _ (hs1.below ((Below.refl _ _).alloc (Nat.le_refl _) _) hs1.lt) (fun hs2 => ?_)
                    clear hK' K'
                    try simp only [Act.put, List.setIfInBounds_toArray, List.set_cons_zero, List.set_cons_succ]
                    have hd2 := (hid.below hc1).below (W' := w1.alloc (.cells #[.int .i64 (jn A1 B1 false)] 2)) ((Below.refl _ _).alloc (Nat.le_refl _) _)
                    refine wpAnyH_ready (rs := [4]) (by kernel_rfl) (by simp) ?_
                    refine AllReadyH.cons rfl (fun K' hK' => ?_) AllReadyH.nil
                    refine step_app1 rfl _ _ 24 rfl W0.heap.size 2 i0 Tryd.underlying24 hi0 hz0 hz1 hz2 av us.length (us.map (.int .i64)) rfl hd2.arow w1.heap.size 1 (jn A1 B1 false) rfl (by simp [go_sem]) (by omega) (by have := hd2.fr.size; omega) ?_
                    intro g' c' w3 hown hgrow hnew
                    obtain ⟨E1, E2, E3⟩ := G1.appendV (by omega) (by omega) (by omega) (fun e => by have := pl _ e; omega) (((Below.refl _ X1).drew.trans hc1).alloc hc1.size _) hown hgrow hnew
                    have nBx : av.ownBlock ≠ some Bx := fun e => (by obtain ⟨cs, hcs⟩ := own_cells hd2.arow e; rw [show _ = _ from hs2] at hcs; simp at hcs)
                    refine hK'.out _ _ (hs2.fr (M := fun j => av.ownBlock = some j) (.of_grown hgrow (fun j e => e)) nBx) (fun hs3 => ?_)
                    clear hK' K'
                    try simp only [Act.put, List.setIfInBounds_toArray, List.set_cons_zero, List.set_cons_succ]
                    have v3 := E3.cell 0
                    have v4 := E3.frozen 0
                    simp at v3
                    refine wpAnyH_ready (rs := [5]) (by kernel_rfl) (by simp) ?_
                    refine AllReadyH.cons rfl (fun K' hK' => ?_) AllReadyH.nil
                    go_simp
                    refine hK'.out _ _ (hs3.fr (M := fun j => j = V) (by refine Fr.setCell (Fr.refl _ _) _ _ ?_; rfl) (show Bx ≠ V by omega)) (fun hs4 => ?_)
                    clear hK' K'
                    try simp only [Act.put, List.setIfInBounds_toArray, List.set_cons_zero, List.set_cons_succ]
                    refine wpAnyH_done (by kernel_rfl) ?_ _
                    exact FIN _ _ _ E1 ((G2.mono (by rintro j (e | e); exact .inl e; exact .inr (.inr (.inl e)))).trans E2 (by rintro j _ (e | e); exact .inr (.inl e); exact .inr (.inr (.inr e))))
                  · go_simp
                    refine hK'.out _ _ (hs1.below ((Below.refl _ _).alloc (Nat.le_refl _) _) hs1.lt) (fun hs2 => ?_)
                    clear hK' K'
                    try simp only [Act.put, List.setIfInBounds_toArray, List.set_cons_zero, List.set_cons_succ]
                    refine wpAnyH_ready (rs := [0]) (by kernel_rfl) (by simp) ?_
                    refine AllReadyH.cons rfl (fun K' hK' => ?_) AllReadyH.nil
                    have v0 := ((hid.below hc1).below (W' := w1.alloc (.cells #[.int .i64 (jn A1 B1 false)] 2)) ((Below.refl _ _).alloc (Nat.le_refl _) _)).v.cell 0
                    simp at v0
                    go_simp
                    refine hK'.out _ _ hs2 (fun _ => ?_)
                    clear hK' K'
                    try simp only [Act.put, List.setIfInBounds_toArray, List.set_cons_zero, List.set_cons_succ]
                    have hd2 := (hid.below hc1).below (W' := w1.alloc (.cells #[.int .i64 (jn A1 B1 false)] 2)) ((Below.refl _ _).alloc (Nat.le_refl _) _)
                    refine wpAnyH_ready (rs := [4]) (by kernel_rfl) (by simp) ?_
                    refine AllReadyH.cons rfl (fun K' hK' => ?_) AllReadyH.nil
                    refine step_app1 rfl _ _ 24 rfl W0.heap.size 2 i0 Tryd.underlying24 hi0 hz0 hz1 hz2 av us.length (us.map (.int .i64)) rfl hd2.arow w1.heap.size 1 (jn A1 B1 false) rfl (by simp [go_sem]) (by omega) (by have := hd2.fr.size; omega) ?_
                    intro g' c' w3 hown hgrow hnew
                    obtain ⟨E1, E2, E3⟩ := G1.appendV (by omega) (by omega) (by omega) (fun e => by have := pl _ e; omega) (((Below.refl _ X1).drew.trans hc1).alloc hc1.size _) hown hgrow hnew
                    have nBx : av.ownBlock ≠ some Bx := fun e => (by obtain ⟨cs, hcs⟩ := own_cells hd2.arow e; rw [show _ = _ from hs2] at hcs; simp at hcs)
                    refine hK'.out _ _ (hs2.fr (M := fun j => av.ownBlock = some j) (.of_grown hgrow (fun j e => e)) nBx) (fun hs3 => ?_)
                    clear hK' K'
                    try simp only [Act.put, List.setIfInBounds_toArray, List.set_cons_zero, List.set_cons_succ]
                    have v3 := E3.cell 0
                    have v4 := E3.frozen 0
                    simp at v3
                    refine wpAnyH_ready (rs := [5]) (by kernel_rfl) (by simp) ?_
                    refine AllReadyH.cons rfl (fun K' hK' => ?_) AllReadyH.nil
                    go_simp
                    refine hK'.out _ _ (hs3.fr (M := fun j => j = V) (by refine Fr.setCell (Fr.refl _ _) _ _ ?_; rfl) (show Bx ≠ V by omega)) (fun hs4 => ?_)
                    clear hK' K'
                    try simp only [Act.put, List.setIfInBounds_toArray, List.set_cons_zero, List.set_cons_succ]
                    refine wpAnyH_done (by kernel_rfl) ?_ _
                    exact FIN _ _ _ E1 ((G2.mono (by rintro j (e | e); exact .inl e; exact .inr (.inr (.inl e)))).trans E2 (by rintro j _ (e | e); exact .inr (.inl e); exact .inr (.inr (.inr e))))
        · have hu : (pre.map (fun x => jP zs' x.1)).length ≤ 24 := by simp; omega
          generalize hus : pre.map (fun x => jP zs' x.1) = us at *
          generalize hps : ps ++ pre.flatMap (fun x => hitP zs' a' x.1) = qs at *
          have FIN : ∀ (Y : World) (pv2 av2 : Value), InS w.heap.size C V W0 pv r qs (us ++ [jn A1 B1 L1]) Y pv2 av2 → Fr (fun j => j = C ∨ j = V ∨ pv'.ownBlock = some j ∨ av.ownBlock = some j) X Y → KeepsFrom W0.heap.size X Y ∧ KpB (fun j => j = V + 1 ∨ j = bl) X Y ∧ ∃ pv' av, InS w.heap.size C V W0 pv r (ps ++ (pre ++ [(⟨k, hk⟩ : Pl zs')]).flatMap (fun x => hitP zs' a' x.1)) ((pre ++ [(⟨k, hk⟩ : Pl zs')]).map (fun x => jP zs' x.1)) Y pv' av := fun Y pv2 av2 h hf => by
            obtain ⟨f1, f2⟩ := hi.pays (B := V + 1) (bl := bl) (by omega) (by omega) (by omega) (by omega) ⟨by omega, by omega, fun e => by have := pl _ e; omega⟩ ⟨nl.2.2.1, by omega, nl.2.2.2⟩ hf
            refine ⟨f1, f2, pv2, av2, ?_⟩
            have e1 : (pre ++ [(⟨k, hk⟩ : Pl zs')]).map (fun x => jP zs' x.1) = us ++ [jn A1 B1 L1] := by rw [List.map_append, hus, List.map_singleton]; exact congrArg (fun t => us ++ [t]) HJ.out
            have e2 : ps ++ (pre ++ [(⟨k, hk⟩ : Pl zs')]).flatMap (fun x => hitP zs' a' x.1) = qs := by rw [List.flatMap_append, ← List.append_assoc, hps]; show qs ++ ([(⟨k, hk⟩ : Pl zs')]).flatMap (fun x => hitP zs' a' x.1) = qs; simp only [List.flatMap_cons, List.flatMap_nil, List.append_nil]; rw [HH.out, if_neg hhit, List.append_nil]
            rw [e1, e2]
            exact h
          by_cases hk0 : (k : Int) = 0
          · have hL0 := hx0 (by omega)
            subst hL0
            have hne : ¬ (k : Int) = a' / 2 := fun e => hhit ⟨e, rfl⟩
            have hne' : ((k : Int) == a' / 2) = false := by simpa using hne
            have hk0' : ((k : Int) == 0) = true := by simpa using hk0
            have HK0 : Hid ((k : Int) = 0) := hk0
            clear hk0 hne hhit
            gi_wp2_with fail
            refine wpIn_round_held (S := fun u => Blk u Bx #[.int .i64 A1, .int .i64 B1, .bool false] 102) (by kernel_rfl) (by kernel_rfl) (fun ⟨_, _, h⟩ => h) (bX.below (Below.refl _ _).drew bX.lt) (fun hs => ?_)
            have hid := hi.below (W' := X.drew) (Below.refl _ _).drew
            refine take_at (i := 1) (d := some 48) (v := .agg #[.int .i64 A1, .int .i64 B1, .bool false]) rfl rfl (by kernel_rfl) (by kernel_rfl) (by kernel_rfl) (fun _ _ _ h => h) (Or.inl ⟨by rfl, ?y19⟩) hs ?g19
            case y19 => (intro z hSz; have e0 := hSz.cell 0; have e1 := hSz.cell 1; have e2 := hSz.cell 2; simp at e0 e1 e2; go_simp)
            try simp only [Act.put, List.setIfInBounds_toArray, List.set_cons_zero, List.set_cons_succ]
            refine wpAnyH_ready (rs := [0, 2]) (by kernel_rfl) (by simp) ?_
            refine AllReadyH.cons rfl (fun K' hK' => ?_) (AllReadyH.cons rfl (fun K' hK' => ?_) AllReadyH.nil)
            · have v0 := (hid).v.cell 0
              simp at v0
              go_simp
              refine hK'.out _ _ hs (fun _ => ?_)
              clear hK' K'
              try simp only [Act.put, List.setIfInBounds_toArray, List.set_cons_zero, List.set_cons_succ]
              refine wpAnyH_ready (rs := [2]) (by kernel_rfl) (by simp) ?_
              refine AllReadyH.cons rfl (fun K' hK' => ?_) AllReadyH.nil
              go_simp
              refine (joined_any A1 B1 false _ (TX.out.below (Below.refl _ _).drew (Nat.le_refl _)) hA (fun _ => hB)).mono ?_
              rintro _ w1 ⟨rfl, hc1⟩
              refine hK'.out _ _ (hs.below hc1 hs.lt) (fun hs1 => ?_)
              clear hK' K'
              try simp only [Act.put, List.setIfInBounds_toArray, List.set_cons_zero, List.set_cons_succ]
              refine wpAnyH_ready (rs := [3]) (by kernel_rfl) (by simp) ?_
              refine AllReadyH.cons rfl (fun K' hK' => ?_) AllReadyH.nil
              go_simp
              refine hK'.out _ _ (hs1.below ((Below.refl _ _).alloc (Nat.le_refl _) _) hs1.lt) (fun hs2 => ?_)
              clear hK' K'
              try simp only [Act.put, List.setIfInBounds_toArray, List.set_cons_zero, List.set_cons_succ]
              have hd2 := (hid.below hc1).below (W' := w1.alloc (.cells #[.int .i64 (jn A1 B1 false)] 2)) ((Below.refl _ _).alloc (Nat.le_refl _) _)
              refine wpAnyH_ready (rs := [4]) (by kernel_rfl) (by simp) ?_
              refine AllReadyH.cons rfl (fun K' hK' => ?_) AllReadyH.nil
              refine step_app1 rfl _ _ 24 rfl W0.heap.size 2 i0 Tryd.underlying24 hi0 hz0 hz1 hz2 av us.length (us.map (.int .i64)) rfl hd2.arow w1.heap.size 1 (jn A1 B1 false) rfl (by simp [go_sem]) (by omega) (by have := hd2.fr.size; omega) ?_
              intro g' c' w3 hown hgrow hnew
              obtain ⟨E1, E2, E3⟩ := hi.appendV (by omega) (by omega) (by omega) (fun e => by have := pl _ e; omega) (((Below.refl _ X).drew.trans hc1).alloc hc1.size _) hown hgrow hnew
              have nBx : av.ownBlock ≠ some Bx := fun e => (by obtain ⟨cs, hcs⟩ := own_cells hd2.arow e; rw [show _ = _ from hs2] at hcs; simp at hcs)
              refine hK'.out _ _ (hs2.fr (M := fun j => av.ownBlock = some j) (.of_grown hgrow (fun j e => e)) nBx) (fun hs3 => ?_)
              clear hK' K'
              try simp only [Act.put, List.setIfInBounds_toArray, List.set_cons_zero, List.set_cons_succ]
              have v3 := E3.cell 0
              have v4 := E3.frozen 0
              simp at v3
              refine wpAnyH_ready (rs := [5]) (by kernel_rfl) (by simp) ?_
              refine AllReadyH.cons rfl (fun K' hK' => ?_) AllReadyH.nil
              go_simp
              refine hK'.out _ _ (hs3.fr (M := fun j => j = V) (by refine Fr.setCell (Fr.refl _ _) _ _ ?_; rfl) (show Bx ≠ V by omega)) (fun hs4 => ?_)
              clear hK' K'
              try simp only [Act.put, List.setIfInBounds_toArray, List.set_cons_zero, List.set_cons_succ]
              refine wpAnyH_done (by kernel_rfl) ?_ _
              exact FIN _ _ _ E1 (E2.mono (by rintro j (e | e); exact .inr (.inl e); exact .inr (.inr (.inr e))))
            · go_simp
              refine (joined_any A1 B1 false _ (TX.out.below (Below.refl _ _).drew (Nat.le_refl _)) hA (fun _ => hB)).mono ?_
              rintro _ w1 ⟨rfl, hc1⟩
              refine hK'.out _ _ (hs.below hc1 hs.lt) (fun hs1 => ?_)
              clear hK' K'
              try simp only [Act.put, List.setIfInBounds_toArray, List.set_cons_zero, List.set_cons_succ]
              refine wpAnyH_ready (rs := [0, 3]) (by kernel_rfl) (by simp) ?_
              refine AllReadyH.cons rfl (fun K' hK' => ?_) (AllReadyH.cons rfl (fun K' hK' => ?_) AllReadyH.nil)
              · have v0 := (hid.below hc1).v.cell 0
                simp at v0
                go_simp
                refine hK'.out _ _ hs1 (fun _ => ?_)
                clear hK' K'
                try simp only [Act.put, List.setIfInBounds_toArray, List.set_cons_zero, List.set_cons_succ]
                refine wpAnyH_ready (rs := [3]) (by kernel_rfl) (by simp) ?_
                refine AllReadyH.cons rfl (fun K' hK' => ?_) AllReadyH.nil
                go_simp
                refine hK'.out _ _ (hs1.below ((Below.refl _ _).alloc (Nat.le_refl _) _) hs1.lt) (fun hs2 => ?_)
                clear hK' K'
                try simp only [Act.put, List.setIfInBounds_toArray, List.set_cons_zero, List.set_cons_succ]
                have hd2 := (hid.below hc1).below (W' := w1.alloc (.cells #[.int .i64 (jn A1 B1 false)] 2)) ((Below.refl _ _).alloc (Nat.le_refl _) _)
                refine wpAnyH_ready (rs := [4]) (by kernel_rfl) (by simp) ?_
                refine AllReadyH.cons rfl (fun K' hK' => ?_) AllReadyH.nil
                refine step_app1 rfl _ _ 24 rfl W0.heap.size 2 i0 Tryd.underlying24 hi0 hz0 hz1 hz2 av us.length (us.map (.int .i64)) rfl hd2.arow w1.heap.size 1 (jn A1 B1 false) rfl (by simp [go_sem]) (by omega) (by have := hd2.fr.size; omega) ?_
                intro g' c' w3 hown hgrow hnew
                obtain ⟨E1, E2, E3⟩ := hi.appendV (by omega) (by omega) (by omega) (fun e => by have := pl _ e; omega) (((Below.refl _ X).drew.trans hc1).alloc hc1.size _) hown hgrow hnew
                have nBx : av.ownBlock ≠ some Bx := fun e => (by obtain ⟨cs, hcs⟩ := own_cells hd2.arow e; rw [show _ = _ from hs2] at hcs; simp at hcs)
                refine hK'.out _ _ (hs2.fr (M := fun j => av.ownBlock = some j) (.of_grown hgrow (fun j e => e)) nBx) (fun hs3 => ?_)
                clear hK' K'
                try simp only [Act.put, List.setIfInBounds_toArray, List.set_cons_zero, List.set_cons_succ]
                have v3 := E3.cell 0
                have v4 := E3.frozen 0
                simp at v3
                refine wpAnyH_ready (rs := [5]) (by kernel_rfl) (by simp) ?_
                refine AllReadyH.cons rfl (fun K' hK' => ?_) AllReadyH.nil
                go_simp
                refine hK'.out _ _ (hs3.fr (M := fun j => j = V) (by refine Fr.setCell (Fr.refl _ _) _ _ ?_; rfl) (show Bx ≠ V by omega)) (fun hs4 => ?_)
                clear hK' K'
                try simp only [Act.put, List.setIfInBounds_toArray, List.set_cons_zero, List.set_cons_succ]
                refine wpAnyH_done (by kernel_rfl) ?_ _
                exact FIN _ _ _ E1 (E2.mono (by rintro j (e | e); exact .inr (.inl e); exact .inr (.inr (.inr e))))
              · go_simp
                refine hK'.out _ _ (hs1.below ((Below.refl _ _).alloc (Nat.le_refl _) _) hs1.lt) (fun hs2 => ?_)
                clear hK' K'
                try simp only [Act.put, List.setIfInBounds_toArray, List.set_cons_zero, List.set_cons_succ]
                refine wpAnyH_ready (rs := [0]) (by kernel_rfl) (by simp) ?_
                refine AllReadyH.cons rfl (fun K' hK' => ?_) AllReadyH.nil
                have v0 := ((hid.below hc1).below (W' := w1.alloc (.cells #[.int .i64 (jn A1 B1 false)] 2)) ((Below.refl _ _).alloc (Nat.le_refl _) _)).v.cell 0
                simp at v0
                go_simp
                refine hK'.out _ _ hs2 (fun _ => ?_)
                clear hK' K'
                try simp only [Act.put, List.setIfInBounds_toArray, List.set_cons_zero, List.set_cons_succ]
                have hd2 := (hid.below hc1).below (W' := w1.alloc (.cells #[.int .i64 (jn A1 B1 false)] 2)) ((Below.refl _ _).alloc (Nat.le_refl _) _)
                refine wpAnyH_ready (rs := [4]) (by kernel_rfl) (by simp) ?_
                refine AllReadyH.cons rfl (fun K' hK' => ?_) AllReadyH.nil
                refine step_app1 rfl _ _ 24 rfl W0.heap.size 2 i0 Tryd.underlying24 hi0 hz0 hz1 hz2 av us.length (us.map (.int .i64)) rfl hd2.arow w1.heap.size 1 (jn A1 B1 false) rfl (by simp [go_sem]) (by omega) (by have := hd2.fr.size; omega) ?_
                intro g' c' w3 hown hgrow hnew
                obtain ⟨E1, E2, E3⟩ := hi.appendV (by omega) (by omega) (by omega) (fun e => by have := pl _ e; omega) (((Below.refl _ X).drew.trans hc1).alloc hc1.size _) hown hgrow hnew
                have nBx : av.ownBlock ≠ some Bx := fun e => (by obtain ⟨cs, hcs⟩ := own_cells hd2.arow e; rw [show _ = _ from hs2] at hcs; simp at hcs)
                refine hK'.out _ _ (hs2.fr (M := fun j => av.ownBlock = some j) (.of_grown hgrow (fun j e => e)) nBx) (fun hs3 => ?_)
                clear hK' K'
                try simp only [Act.put, List.setIfInBounds_toArray, List.set_cons_zero, List.set_cons_succ]
                have v3 := E3.cell 0
                have v4 := E3.frozen 0
                simp at v3
                refine wpAnyH_ready (rs := [5]) (by kernel_rfl) (by simp) ?_
                refine AllReadyH.cons rfl (fun K' hK' => ?_) AllReadyH.nil
                go_simp
                refine hK'.out _ _ (hs3.fr (M := fun j => j = V) (by refine Fr.setCell (Fr.refl _ _) _ _ ?_; rfl) (show Bx ≠ V by omega)) (fun hs4 => ?_)
                clear hK' K'
                try simp only [Act.put, List.setIfInBounds_toArray, List.set_cons_zero, List.set_cons_succ]
                refine wpAnyH_done (by kernel_rfl) ?_ _
                exact FIN _ _ _ E1 (E2.mono (by rintro j (e | e); exact .inr (.inl e); exact .inr (.inr (.inr e))))
          · have hk0' : ((k : Int) == 0) = false := by simpa using hk0
            by_cases hne : (k : Int) = a' / 2
            · have hL0 : L1 = true := by
                cases hq : L1
                · exact absurd ⟨hne, hq⟩ hhit
                · rfl
              subst hL0
              have hne' : ((k : Int) == a' / 2) = true := by simpa using hne
              clear hk0 hne hhit
              gi_wp2_with fail
              refine wpIn_round_held (S := fun u => Blk u Bx #[.int .i64 A1, .int .i64 B1, .bool true] 102) (by kernel_rfl) (by kernel_rfl) (fun ⟨_, _, h⟩ => h) (bX.below (Below.refl _ _).drew bX.lt) (fun hs => ?_)
              have hid := hi.below (W' := X.drew) (Below.refl _ _).drew
              refine take_at (i := 1) (d := some 48) (v := .agg #[.int .i64 A1, .int .i64 B1, .bool true]) rfl rfl (by kernel_rfl) (by kernel_rfl) (by kernel_rfl) (fun _ _ _ h => h) (Or.inl ⟨by rfl, ?y20⟩) hs ?g20
              case y20 => (intro z hSz; have e0 := hSz.cell 0; have e1 := hSz.cell 1; have e2 := hSz.cell 2; simp at e0 e1 e2; go_simp)
              try simp only [Act.put, List.setIfInBounds_toArray, List.set_cons_zero, List.set_cons_succ]
              refine wpAnyH_ready (rs := [0, 2]) (by kernel_rfl) (by simp) ?_
              refine AllReadyH.cons rfl (fun K' hK' => ?_) (AllReadyH.cons rfl (fun K' hK' => ?_) AllReadyH.nil)
              · have v0 := (hid).v.cell 0
                simp at v0
                go_simp
                refine hK'.out _ _ hs (fun _ => ?_)
                clear hK' K'
                try simp only [Act.put, List.setIfInBounds_toArray, List.set_cons_zero, List.set_cons_succ]
                refine wpAnyH_ready (rs := [2]) (by kernel_rfl) (by simp) ?_
                refine AllReadyH.cons rfl (fun K' hK' => ?_) AllReadyH.nil
                go_simp
                refine (joined_any A1 B1 true _ (TX.out.below (Below.refl _ _).drew (Nat.le_refl _)) hA (fun _ => hB)).mono ?_
                rintro _ w1 ⟨rfl, hc1⟩
                refine hK'.out _ _ (hs.below hc1 hs.lt) (fun hs1 => ?_)
                clear hK' K'
                try simp only [Act.put, List.setIfInBounds_toArray, List.set_cons_zero, List.set_cons_succ]
                refine wpAnyH_ready (rs := [3]) (by kernel_rfl) (by simp) ?_
                refine AllReadyH.cons rfl (fun K' hK' => ?_) AllReadyH.nil
                go_simp
                refine hK'.out _ _ (hs1.below ((Below.refl _ _).alloc (Nat.le_refl _) _) hs1.lt) (fun hs2 => ?_)
                clear hK' K'
                try simp only [Act.put, List.setIfInBounds_toArray, List.set_cons_zero, List.set_cons_succ]
                have hd2 := (hid.below hc1).below (W' := w1.alloc (.cells #[.int .i64 (jn A1 B1 true)] 2)) ((Below.refl _ _).alloc (Nat.le_refl _) _)
                refine wpAnyH_ready (rs := [4]) (by kernel_rfl) (by simp) ?_
                refine AllReadyH.cons rfl (fun K' hK' => ?_) AllReadyH.nil
                refine step_app1 rfl _ _ 24 rfl W0.heap.size 2 i0 Tryd.underlying24 hi0 hz0 hz1 hz2 av us.length (us.map (.int .i64)) rfl hd2.arow w1.heap.size 1 (jn A1 B1 true) rfl (by simp [go_sem]) (by omega) (by have := hd2.fr.size; omega) ?_
                intro g' c' w3 hown hgrow hnew
                obtain ⟨E1, E2, E3⟩ := hi.appendV (by omega) (by omega) (by omega) (fun e => by have := pl _ e; omega) (((Below.refl _ X).drew.trans hc1).alloc hc1.size _) hown hgrow hnew
                have nBx : av.ownBlock ≠ some Bx := fun e => (by obtain ⟨cs, hcs⟩ := own_cells hd2.arow e; rw [show _ = _ from hs2] at hcs; simp at hcs)
                refine hK'.out _ _ (hs2.fr (M := fun j => av.ownBlock = some j) (.of_grown hgrow (fun j e => e)) nBx) (fun hs3 => ?_)
                clear hK' K'
                try simp only [Act.put, List.setIfInBounds_toArray, List.set_cons_zero, List.set_cons_succ]
                have v3 := E3.cell 0
                have v4 := E3.frozen 0
                simp at v3
                refine wpAnyH_ready (rs := [5]) (by kernel_rfl) (by simp) ?_
                refine AllReadyH.cons rfl (fun K' hK' => ?_) AllReadyH.nil
                go_simp
                refine hK'.out _ _ (hs3.fr (M := fun j => j = V) (by refine Fr.setCell (Fr.refl _ _) _ _ ?_; rfl) (show Bx ≠ V by omega)) (fun hs4 => ?_)
                clear hK' K'
                try simp only [Act.put, List.setIfInBounds_toArray, List.set_cons_zero, List.set_cons_succ]
                refine wpAnyH_done (by kernel_rfl) ?_ _
                exact FIN _ _ _ E1 (E2.mono (by rintro j (e | e); exact .inr (.inl e); exact .inr (.inr (.inr e))))
              · go_simp
                refine (joined_any A1 B1 true _ (TX.out.below (Below.refl _ _).drew (Nat.le_refl _)) hA (fun _ => hB)).mono ?_
                rintro _ w1 ⟨rfl, hc1⟩
                refine hK'.out _ _ (hs.below hc1 hs.lt) (fun hs1 => ?_)
                clear hK' K'
                try simp only [Act.put, List.setIfInBounds_toArray, List.set_cons_zero, List.set_cons_succ]
                refine wpAnyH_ready (rs := [0, 3]) (by kernel_rfl) (by simp) ?_
                refine AllReadyH.cons rfl (fun K' hK' => ?_) (AllReadyH.cons rfl (fun K' hK' => ?_) AllReadyH.nil)
                · have v0 := (hid.below hc1).v.cell 0
                  simp at v0
                  go_simp
                  refine hK'.out _ _ hs1 (fun _ => ?_)
                  clear hK' K'
                  try simp only [Act.put, List.setIfInBounds_toArray, List.set_cons_zero, List.set_cons_succ]
                  refine wpAnyH_ready (rs := [3]) (by kernel_rfl) (by simp) ?_
                  refine AllReadyH.cons rfl (fun K' hK' => ?_) AllReadyH.nil
                  go_simp
                  refine hK'.out _ _ (hs1.below ((Below.refl _ _).alloc (Nat.le_refl _) _) hs1.lt) (fun hs2 => ?_)
                  clear hK' K'
                  try simp only [Act.put, List.setIfInBounds_toArray, List.set_cons_zero, List.set_cons_succ]
                  have hd2 := (hid.below hc1).below (W' := w1.alloc (.cells #[.int .i64 (jn A1 B1 true)] 2)) ((Below.refl _ _).alloc (Nat.le_refl _) _)
                  refine wpAnyH_ready (rs := [4]) (by kernel_rfl) (by simp) ?_
                  refine AllReadyH.cons rfl (fun K' hK' => ?_) AllReadyH.nil
                  refine step_app1 rfl _ _ 24 rfl W0.heap.size 2 i0 Tryd.underlying24 hi0 hz0 hz1 hz2 av us.length (us.map (.int .i64)) rfl hd2.arow w1.heap.size 1 (jn A1 B1 true) rfl (by simp [go_sem]) (by omega) (by have := hd2.fr.size; omega) ?_
                  intro g' c' w3 hown hgrow hnew
                  obtain ⟨E1, E2, E3⟩ := hi.appendV (by omega) (by omega) (by omega) (fun e => by have := pl _ e; omega) (((Below.refl _ X).drew.trans hc1).alloc hc1.size _) hown hgrow hnew
                  have nBx : av.ownBlock ≠ some Bx := fun e => (by obtain ⟨cs, hcs⟩ := own_cells hd2.arow e; rw [show _ = _ from hs2] at hcs; simp at hcs)
                  refine hK'.out _ _ (hs2.fr (M := fun j => av.ownBlock = some j) (.of_grown hgrow (fun j e => e)) nBx) (fun hs3 => ?_)
                  clear hK' K'
                  try simp only [Act.put, List.setIfInBounds_toArray, List.set_cons_zero, List.set_cons_succ]
                  have v3 := E3.cell 0
                  have v4 := E3.frozen 0
                  simp at v3
                  refine wpAnyH_ready (rs := [5]) (by kernel_rfl) (by simp) ?_
                  refine AllReadyH.cons rfl (fun K' hK' => ?_) AllReadyH.nil
                  go_simp
                  refine hK'.out _ _ (hs3.fr (M := fun j => j = V) (by refine Fr.setCell (Fr.refl _ _) _ _ ?_; rfl) (show Bx ≠ V by omega)) (fun hs4 => ?_)
                  clear hK' K'
                  try simp only [Act.put, List.setIfInBounds_toArray, List.set_cons_zero, List.set_cons_succ]
                  refine wpAnyH_done (by kernel_rfl) ?_ _
                  exact FIN _ _ _ E1 (E2.mono (by rintro j (e | e); exact .inr (.inl e); exact .inr (.inr (.inr e))))
                · go_simp
                  refine hK'.out _ _ (hs1.below ((Below.refl _ _).alloc (Nat.le_refl _) _) hs1.lt) (fun hs2 => ?_)
                  clear hK' K'
                  try simp only [Act.put, List.setIfInBounds_toArray, List.set_cons_zero, List.set_cons_succ]
                  refine wpAnyH_ready (rs := [0]) (by kernel_rfl) (by simp) ?_
                  refine AllReadyH.cons rfl (fun K' hK' => ?_) AllReadyH.nil
                  have v0 := ((hid.below hc1).below (W' := w1.alloc (.cells #[.int .i64 (jn A1 B1 true)] 2)) ((Below.refl _ _).alloc (Nat.le_refl _) _)).v.cell 0
                  simp at v0
                  go_simp
                  refine hK'.out _ _ hs2 (fun _ => ?_)
                  clear hK' K'
                  try simp only [Act.put, List.setIfInBounds_toArray, List.set_cons_zero, List.set_cons_succ]
                  have hd2 := (hid.below hc1).below (W' := w1.alloc (.cells #[.int .i64 (jn A1 B1 true)] 2)) ((Below.refl _ _).alloc (Nat.le_refl _) _)
                  refine wpAnyH_ready (rs := [4]) (by kernel_rfl) (by simp) ?_
                  refine AllReadyH.cons rfl (fun K' hK' => ?_) AllReadyH.nil
                  refine step_app1 rfl _ _ 24 rfl W0.heap.size 2 i0 Tryd.underlying24 hi0 hz0 hz1 hz2 av us.length (us.map (.int .i64)) rfl hd2.arow w1.heap.size 1 (jn A1 B1 true) rfl (by simp [go_sem]) (by omega) (by have := hd2.fr.size; omega) ?_
                  intro g' c' w3 hown hgrow hnew
                  obtain ⟨E1, E2, E3⟩ := hi.appendV (by omega) (by omega) (by omega) (fun e => by have := pl _ e; omega) (((Below.refl _ X).drew.trans hc1).alloc hc1.size _) hown hgrow hnew
                  have nBx : av.ownBlock ≠ some Bx := fun e => (by obtain ⟨cs, hcs⟩ := own_cells hd2.arow e; rw [show _ = _ from hs2] at hcs; simp at hcs)
                  refine hK'.out _ _ (hs2.fr (M := fun j => av.ownBlock = some j) (.of_grown hgrow (fun j e => e)) nBx) (fun hs3 => ?_)
                  clear hK' K'
                  try simp only [Act.put, List.setIfInBounds_toArray, List.set_cons_zero, List.set_cons_succ]
                  have v3 := E3.cell 0
                  have v4 := E3.frozen 0
                  simp at v3
                  refine wpAnyH_ready (rs := [5]) (by kernel_rfl) (by simp) ?_
                  refine AllReadyH.cons rfl (fun K' hK' => ?_) AllReadyH.nil
                  go_simp
                  refine hK'.out _ _ (hs3.fr (M := fun j => j = V) (by refine Fr.setCell (Fr.refl _ _) _ _ ?_; rfl) (show Bx ≠ V by omega)) (fun hs4 => ?_)
                  clear hK' K'
                  try simp only [Act.put, List.setIfInBounds_toArray, List.set_cons_zero, List.set_cons_succ]
                  refine wpAnyH_done (by kernel_rfl) ?_ _
                  exact FIN _ _ _ E1 (E2.mono (by rintro j (e | e); exact .inr (.inl e); exact .inr (.inr (.inr e))))
            · have hne' : ((k : Int) == a' / 2) = false := by simpa using hne
              clear hk0 hne hhit
              gi_wp2_with fail
              refine wpIn_round_held (S := fun u => Blk u Bx #[.int .i64 A1, .int .i64 B1, .bool L1] 102) (by kernel_rfl) (by kernel_rfl) (fun ⟨_, _, h⟩ => h) (bX.below (Below.refl _ _).drew bX.lt) (fun hs => ?_)
              have hid := hi.below (W' := X.drew) (Below.refl _ _).drew
              refine take_at (i := 1) (d := some 48) (v := .agg #[.int .i64 A1, .int .i64 B1, .bool L1]) rfl rfl (by kernel_rfl) (by kernel_rfl) (by kernel_rfl) (fun _ _ _ h => h) (Or.inl ⟨by rfl, ?y21⟩) hs ?g21
              case y21 => (intro z hSz; have e0 := hSz.cell 0; have e1 := hSz.cell 1; have e2 := hSz.cell 2; simp at e0 e1 e2; go_simp)
              try simp only [Act.put, List.setIfInBounds_toArray, List.set_cons_zero, List.set_cons_succ]
              refine wpAnyH_ready (rs := [0, 2]) (by kernel_rfl) (by simp) ?_
              refine AllReadyH.cons rfl (fun K' hK' => ?_) (AllReadyH.cons rfl (fun K' hK' => ?_) AllReadyH.nil)
              · have v0 := (hid).v.cell 0
                simp at v0
                go_simp
                refine hK'.out _ _ hs (fun _ => ?_)
                clear hK' K'
                try simp only [Act.put, List.setIfInBounds_toArray, List.set_cons_zero, List.set_cons_succ]
                refine wpAnyH_ready (rs := [2]) (by kernel_rfl) (by simp) ?_
                refine AllReadyH.cons rfl (fun K' hK' => ?_) AllReadyH.nil
                go_simp
                refine (joined_any A1 B1 L1 _ (TX.out.below (Below.refl _ _).drew (Nat.le_refl _)) hA (fun _ => hB)).mono ?_
                rintro _ w1 ⟨rfl, hc1⟩
                refine hK'.out _ _ (hs.below hc1 hs.lt) (fun hs1 => ?_)
                clear hK' K'
                try simp only [Act.put, List.setIfInBounds_toArray, List.set_cons_zero, List.set_cons_succ]
                refine wpAnyH_ready (rs := [3]) (by kernel_rfl) (by simp) ?_
                refine AllReadyH.cons rfl (fun K' hK' => ?_) AllReadyH.nil
                go_simp
                refine hK'.out _ _ (hs1.below ((Below.refl _ _).alloc (Nat.le_refl _) _) hs1.lt) (fun hs2 => ?_)
                clear hK' K'
                try simp only [Act.put, List.setIfInBounds_toArray, List.set_cons_zero, List.set_cons_succ]
                have hd2 := (hid.below hc1).below (W' := w1.alloc (.cells #[.int .i64 (jn A1 B1 L1)] 2)) ((Below.refl _ _).alloc (Nat.le_refl _) _)
                refine wpAnyH_ready (rs := [4]) (by kernel_rfl) (by simp) ?_
                refine AllReadyH.cons rfl (fun K' hK' => ?_) AllReadyH.nil
                refine step_app1 rfl _ _ 24 rfl W0.heap.size 2 i0 Tryd.underlying24 hi0 hz0 hz1 hz2 av us.length (us.map (.int .i64)) rfl hd2.arow w1.heap.size 1 (jn A1 B1 L1) rfl (by simp [go_sem]) (by omega) (by have := hd2.fr.size; omega) ?_
                intro g' c' w3 hown hgrow hnew
                obtain ⟨E1, E2, E3⟩ := hi.appendV (by omega) (by omega) (by omega) (fun e => by have := pl _ e; omega) (((Below.refl _ X).drew.trans hc1).alloc hc1.size _) hown hgrow hnew
                have nBx : av.ownBlock ≠ some Bx := fun e => (by obtain ⟨cs, hcs⟩ := own_cells hd2.arow e; rw [show _ = _ from hs2] at hcs; simp at hcs)
                refine hK'.out _ _ (hs2.fr (M := fun j => av.ownBlock = some j) (.of_grown hgrow (fun j e => e)) nBx) (fun hs3 => ?_)
                clear hK' K'
                try simp only [Act.put, List.setIfInBounds_toArray, List.set_cons_zero, List.set_cons_succ]
                have v3 := E3.cell 0
                have v4 := E3.frozen 0
                simp at v3
                refine wpAnyH_ready (rs := [5]) (by kernel_rfl) (by simp) ?_
                refine AllReadyH.cons rfl (fun K' hK' => ?_) AllReadyH.nil
                go_simp
                refine hK'.out _ _ (hs3.fr (M := fun j => j = V) (by refine Fr.setCell (Fr.refl _ _) _ _ ?_; rfl) (show Bx ≠ V by omega)) (fun hs4 => ?_)
                clear hK' K'
                try simp only [Act.put, List.setIfInBounds_toArray, List.set_cons_zero, List.set_cons_succ]
                refine wpAnyH_done (by kernel_rfl) ?_ _
                exact FIN _ _ _ E1 (E2.mono (by rintro j (e | e); exact .inr (.inl e); exact .inr (.inr (.inr e))))
              · go_simp
                refine (joined_any A1 B1 L1 _ (TX.out.below (Below.refl _ _).drew (Nat.le_refl _)) hA (fun _ => hB)).mono ?_
                rintro _ w1 ⟨rfl, hc1⟩
                refine hK'.out _ _ (hs.below hc1 hs.lt) (fun hs1 => ?_)
                clear hK' K'
                try simp only [Act.put, List.setIfInBounds_toArray, List.set_cons_zero, List.set_cons_succ]
                refine wpAnyH_ready (rs := [0, 3]) (by kernel_rfl) (by simp) ?_
                refine AllReadyH.cons rfl (fun K' hK' => ?_) (AllReadyH.cons rfl (fun K' hK' => ?_) AllReadyH.nil)
                · have v0 := (hid.below hc1).v.cell 0
                  simp at v0
                  go_simp
                  refine hK'.out _ _ hs1 (fun _ => ?_)
                  clear hK' K'
                  try simp only [Act.put, List.setIfInBounds_toArray, List.set_cons_zero, List.set_cons_succ]
                  refine wpAnyH_ready (rs := [3]) (by kernel_rfl) (by simp) ?_
                  refine AllReadyH.cons rfl (fun K' hK' => ?_) AllReadyH.nil
                  go_simp
                  refine hK'.out _ _ (hs1.below ((Below.refl _ _).alloc (Nat.le_refl _) _) hs1.lt) (fun hs2 => ?_)
                  clear hK' K'
                  try simp only [Act.put, List.setIfInBounds_toArray, List.set_cons_zero, List.set_cons_succ]
                  have hd2 := (hid.below hc1).below (W' := w1.alloc (.cells #[.int .i64 (jn A1 B1 L1)] 2)) ((Below.refl _ _).alloc (Nat.le_refl _) _)
                  refine wpAnyH_ready (rs := [4]) (by kernel_rfl) (by simp) ?_
                  refine AllReadyH.cons rfl (fun K' hK' => ?_) AllReadyH.nil
                  refine step_app1 rfl _ _ 24 rfl W0.heap.size 2 i0 Tryd.underlying24 hi0 hz0 hz1 hz2 av us.length (us.map (.int .i64)) rfl hd2.arow w1.heap.size 1 (jn A1 B1 L1) rfl (by simp [go_sem]) (by omega) (by have := hd2.fr.size; omega) ?_
                  intro g' c' w3 hown hgrow hnew
                  obtain ⟨E1, E2, E3⟩ := hi.appendV (by omega) (by omega) (by omega) (fun e => by have := pl _ e; omega) (((Below.refl _ X).drew.trans hc1).alloc hc1.size _) hown hgrow hnew
                  have nBx : av.ownBlock ≠ some Bx := fun e => (by obtain ⟨cs, hcs⟩ := own_cells hd2.arow e; rw [show _ = _ from hs2] at hcs; simp at hcs)
                  refine hK'.out _ _ (hs2.fr (M := fun j => av.ownBlock = some j) (.of_grown hgrow (fun j e => e)) nBx) (fun hs3 => ?_)
                  clear hK' K'
                  try simp only [Act.put, List.setIfInBounds_toArray, List.set_cons_zero, List.set_cons_succ]
                  have v3 := E3.cell 0
                  have v4 := E3.frozen 0
                  simp at v3
                  refine wpAnyH_ready (rs := [5]) (by kernel_rfl) (by simp) ?_
                  refine AllReadyH.cons rfl (fun K' hK' => ?_) AllReadyH.nil
                  go_simp
                  refine hK'.out _ _ (hs3.fr (M := fun j => j = V) (by refine Fr.setCell (Fr.refl _ _) _ _ ?_; rfl) (show Bx ≠ V by omega)) (fun hs4 => ?_)
                  clear hK' K'
                  try simp only [Act.put, List.setIfInBounds_toArray, List.set_cons_zero, List.set_cons_succ]
                  refine wpAnyH_done (by kernel_rfl) ?_ _
                  exact FIN _ _ _ E1 (E2.mono (by rintro j (e | e); exact .inr (.inl e); exact .inr (.inr (.inr e))))
                · go_simp
                  refine hK'.out _ _ (hs1.below ((Below.refl _ _).alloc (Nat.le_refl _) _) hs1.lt) (fun hs2 => ?_)
                  clear hK' K'
                  try simp only [Act.put, List.setIfInBounds_toArray, List.set_cons_zero, List.set_cons_succ]
                  refine wpAnyH_ready (rs := [0]) (by kernel_rfl) (by simp) ?_
                  refine AllReadyH.cons rfl (fun K' hK' => ?_) AllReadyH.nil
                  have v0 := ((hid.below hc1).below (W' := w1.alloc (.cells #[.int .i64 (jn A1 B1 L1)] 2)) ((Below.refl _ _).alloc (Nat.le_refl _) _)).v.cell 0
                  simp at v0
                  go_simp
                  refine hK'.out _ _ hs2 (fun _ => ?_)
                  clear hK' K'
                  try simp only [Act.put, List.setIfInBounds_toArray, List.set_cons_zero, List.set_cons_succ]
                  have hd2 := (hid.below hc1).below (W' := w1.alloc (.cells #[.int .i64 (jn A1 B1 L1)] 2)) ((Below.refl _ _).alloc (Nat.le_refl _) _)
                  refine wpAnyH_ready (rs := [4]) (by kernel_rfl) (by simp) ?_
                  refine AllReadyH.cons rfl (fun K' hK' => ?_) AllReadyH.nil
                  refine step_app1 rfl _ _ 24 rfl W0.heap.size 2 i0 Tryd.underlying24 hi0 hz0 hz1 hz2 av us.length (us.map (.int .i64)) rfl hd2.arow w1.heap.size 1 (jn A1 B1 L1) rfl (by simp [go_sem]) (by omega) (by have := hd2.fr.size; omega) ?_
                  intro g' c' w3 hown hgrow hnew
                  obtain ⟨E1, E2, E3⟩ := hi.appendV (by omega) (by omega) (by omega) (fun e => by have := pl _ e; omega) (((Below.refl _ X).drew.trans hc1).alloc hc1.size _) hown hgrow hnew
                  have nBx : av.ownBlock ≠ some Bx := fun e => (by obtain ⟨cs, hcs⟩ := own_cells hd2.arow e; rw [show _ = _ from hs2] at hcs; simp at hcs)
                  refine hK'.out _ _ (hs2.fr (M := fun j => av.ownBlock = some j) (.of_grown hgrow (fun j e => e)) nBx) (fun hs3 => ?_)
                  clear hK' K'
                  try simp only [Act.put, List.setIfInBounds_toArray, List.set_cons_zero, List.set_cons_succ]
                  have v3 := E3.cell 0
                  have v4 := E3.frozen 0
                  simp at v3
                  refine wpAnyH_ready (rs := [5]) (by kernel_rfl) (by simp) ?_
                  refine AllReadyH.cons rfl (fun K' hK' => ?_) AllReadyH.nil
                  go_simp
                  refine hK'.out _ _ (hs3.fr (M := fun j => j = V) (by refine Fr.setCell (Fr.refl _ _) _ _ ?_; rfl) (show Bx ≠ V by omega)) (fun hs4 => ?_)
                  clear hK' K'
                  try simp only [Act.put, List.setIfInBounds_toArray, List.set_cons_zero, List.set_cons_succ]
                  refine wpAnyH_done (by kernel_rfl) ?_ _
                  exact FIN _ _ _ E1 (E2.mono (by rintro j (e | e); exact .inr (.inl e); exact .inr (.inr (.inr e))))
      case done =>
        rintro D ys Y hD rfl ⟨pv2, av, hi⟩ hKD
        rw [upP_hit zs' a' _ ha0 ha1', upP_map] at hi
        have hlu := upL_len nS zs'
        have HU : Hid ((upL nS zs').length = (zs'.length + 1) / 2) := hlu
        have hup : 0 < (upL nS zs').length := by omega
        obtain ⟨g, ac, hav⟩ : ∃ g cap, av = .slice (some ⟨g, 0, none⟩) (upL nS zs').length cap := by
          obtain ⟨m, hm'⟩ : ∃ m, (upL nS zs').length = m + 1 := ⟨(upL nS zs').length - 1, by omega⟩
          have := hi.arow
          rw [hm'] at this ⊢
          exact ownsRow_succ this
        subst hav
        have AY : Blk Y w.heap.size #[.int .i64 a'] 2 := A0.fr hi.fr (by rintro (e | e | e); omega; omega; exact hpl.1 e)
        have q0 := AY.cell 0
        have q1 := AY.frozen 0
        have v0 := hi.v.cell 0
        simp at q0 v0
        have haq : a' / 2 = a' / 2 := rfl
        have nx : InS w.heap.size C V W0 pv r _ _ Y pv2 _ := hi
        clear hlu
        gi_wp2_with fail
        refine wpIn_wide.2 ?_
        go_region
        have fs : Fr (fun k => k = w.heap.size) Y (Y.setCell ⟨w.heap.size, 0, none⟩ (.int .i64 (a' / 2))).drew := by
          refine Fr.drew (Fr.setCell (Fr.refl _ _) _ _ ?_); rfl
        have np2 : ∀ q, q < W0.heap.size → pv.ownBlock ≠ some q → pv2.ownBlock ≠ some q := fun q h1 h2 e => by
          rcases hi.old q e with h4 | h4
          · omega
          · exact h2 h4
        have hg0 : W0.heap.size ≤ g := (hi.arow.lt g rfl).1
        have ar2 := own_fr hi.arow fs (fun q e1 e2 => by have := (hi.arow.lt q e1).1; omega)
        have hac : (upL nS zs').length ≤ ac ∧ ac ≤ maxLen := by
          rcases hi.arow.2 with ⟨e1, _⟩ | ⟨_, _, _, e1, _, _, h1, h2, _⟩
          · simp at e1
          · simp at e1; rw [e1.2]; exact ⟨h1, h2⟩
        have rY : Blk Y (w.heap.size + 1) #[.int .i64 0, .slice none 0 0] 70 := RB0.fr hi.fr (by rintro (e | e | e); omega; omega; exact hpl.2.1 e)
        have mY : ∀ q, (∃ d ∈ ds, d.target = .collected q) → Y.heap[q]? = W0.heap[q]? := fun q hq => hi.fr.block q (Array.getElem?_eq_some_iff.1 (M0.at hq).2).1 (by
          have hd := (M0.at hq).2
          rintro (e | e | e)
          · rw [e, show W0.heap[C]? = _ from I0.c] at hd; cases hd
          · rw [e, show W0.heap[V]? = _ from I0.v] at hd; cases hd
          · obtain ⟨cs, hcs⟩ := own_cells I0.prow e
            rw [hcs] at hd; cases hd)
        have mY2 : ∀ q, (∃ d ∈ ds, d.target = .collected q) → (Y.setCell ⟨w.heap.size, 0, none⟩ (.int .i64 (a' / 2))).drew.heap[q]? = W0.heap[q]? := fun q hq => (fs.block q (Array.getElem?_eq_some_iff.1 ((mY q hq).trans (M0.at hq).2)).1 (fun e => by
          have hd := (M0.at hq).2
          rw [e, show W0.heap[w.heap.size]? = _ from A0] at hd; cases hd)).trans (mY q hq)
        have hDn : D ≠ w.heap.size := by omega
        have hlu : (upL nS zs').length = (zs'.length + 1) / 2 := HU.out
        refine ⟨⟨upL nS zs', a' / 2, r, _, pv2, some ⟨g, 0, none⟩, ac, { target := .collected D, args := #[] } :: ds, fun i => [.pointer (some ⟨V, 0, none⟩), .slice (some ⟨bl, off, none⟩) zs'.length lc, .int .i64 zs'.length, .bool true, .slice (some ⟨bl, off, none⟩) zs'.length lc, .func (.func 109) #[] #[.pointer (some ⟨V + 1, 0, none⟩)], .slice (some ⟨g, 0, none⟩) (upL nS zs').length ac, .int .i64 a', .int .i64 (a' / 2)].getD i.val undef, rfl, ⟨?_, rY.fr fs (by omega), hi.c.fr fs (by omega), hC0, own_fr hi.prow fs (fun q e1 e2 => np2 q (by omega) (by rw [e2]; exact hpl.1) e1), ⟨np2 _ (by omega) hpl.1, np2 _ (by omega) hpl.2.1, np2 _ (by omega) hpl.2.2⟩, has_of_own ar2 (allS_wf (upL_all nS nS_bd zs' hall)), ?_, ⟨D, rfl, by omega, (fs.block D (Array.getElem?_eq_some_iff.1 hKD).1 hDn).trans hKD, ?_, M0.fr mY2⟩, ?_⟩, ⟨by omega, upL_all nS nS_bd zs' hall, by omega, .inl (by omega), fun h => by omega, fun _ => (rtM_up nS 11 _ zs' (Nat.le_refl _) hpos (by omega)).trans hRz, ?_, hP24⟩, hac.1, hac.2⟩, ?_⟩
        · have h6 : Blk (Y.setCell ⟨w.heap.size, 0, none⟩ (.int .i64 (a' / 2))) w.heap.size #[.int .i64 (a' / 2)] 2 := by
            have := AY.set 0 (.int .i64 (a' / 2))
            simpa using this
          exact h6
        · intro _ ad e
          cases e
          exact ⟨by show g ≠ _; omega, by show g ≠ _; omega, by show g ≠ _; omega, fun e => hi.apart g e rfl⟩
        · intro d' hd' e
          have := (Array.getElem?_eq_some_iff.1 (M0.at ⟨d', hd', e⟩).2).1
          omega
        · exact (Bw.trans (hi.fr.below (B := w.heap.size) (by rintro q (e | e | e); omega; omega; exact (I0.prow.lt q e).1) Bw.size)).trans (fs.below (fun q e => by omega) (by have := hi.fr.size; omega))
        · rw [List.append_assoc, ← ptM_up nS 11 _ zs' a' (Nat.le_refl _) hpos (by omega) ha0 ha1']
          exact HP.out
        · show (upL nS zs').length < zs'.length
          omega
      case stop =>
        rintro D c pre X _ _ h _
        exact h.elim

end Go.Proofs.YtkjhcblfkpknlaaDoor

namespace Go.Proofs.YtkjhcblfkpknlaaDoor
open Go.ChangeShapes Go.WideShapes Go.ChangeAt Go.RowKit
set_option linter.unusedVariables false
set_option linter.unusedSimpArgs false

theorem fldC0 (x : Int) (a : Option Addr) (n c : Nat) (w : World) : (Instr.field 70 (.agg #[.int .i64 x, .slice a n c]) 0).run Tryd.prog w = .ok (.int .i64 x) w := by kernel_rfl
theorem fldC1 (x : Int) (a : Option Addr) (n c : Nat) (w : World) : (Instr.field 70 (.agg #[.int .i64 x, .slice a n c]) 1).run Tryd.prog w = .ok (.slice a n c) w := by kernel_rfl

set_option maxHeartbeats 2000000 in
theorem implRootOf_any (x : Option Addr) (c : Nat) (zs : List Int) (w : World) (hT : Tab w) (hp : Has w .i64 x zs.length zs) (hl : zs.length ≤ 1048576) (hc : zs.length ≤ c) (hm : c ≤ maxLen) :
    Calls Tryd.prog 25 #[.slice x zs.length c] w fun r w' => r = .returned (.agg #[.int .i64 (lvF zs), .int .i64 (rtV zs)]) ∧ Below w.heap.size w w' := by
  by_cases h0 : lvF zs = 0
  · have hV : rtV zs = rtM nS 11 zs := by unfold rtV; rw [if_pos h0]
    obtain ⟨h24, hall⟩ := lvF_zero h0
    have H0 : Hid (lvF zs = 0) := h0
    rw [hV, h0]
    clear hV h0
    have F0 := fldC0
    go_enter Tryd.func25, Tryd.ntmps25
    go_wp2_with fail
    refine (implLeavesFault_any x c zs _ (hp.alloc _) hl).mono ?_
    rintro r u ⟨rfl, rfl⟩
    rw [H0.out]
    go_wp2_with fail
    refine (climbLeaves_any x c zs 0 _ (hT.alloc _) (hp.alloc _) h24 hall (by omega) (by omega) hc hm).mono ?_
    rintro r u ⟨pa, pc, rfl, _, hb1⟩
    obtain ⟨hc1, hf1⟩ := bcell hb1
    have hz1 := hb1.size
    simp at hz1
    go_wp2
    refine bodyPost_ret (v := .agg #[.int .i64 0, .int .i64 (rtM nS 11 zs)]) (by simp [results, Tryd.results25, go_sem, hc1]) rfl ⟨rfl, ?_⟩
    repeat (first | exact Below.refl _ _ | (refine Below.alloc ?_ (by (try simp) <;> omega) _) | (refine Below.setCell ?_ (by (try simp) <;> omega) _) | (refine Below.trans ?_ (hb1.mono (by (try simp) <;> omega))))
  · have hV : rtV zs = 0 := by unfold rtV; rw [if_neg h0]
    have h0' : (lvF zs != 0) = true := by simpa using h0
    rw [hV]
    clear hV h0
    generalize hcc : lvF zs = cc at *
    have HC : Hid (lvF zs = cc) := hcc
    clear hcc
    go_enter Tryd.func25, Tryd.ntmps25
    go_wp2_with fail
    refine (implLeavesFault_any x c zs _ (hp.alloc _) hl).mono ?_
    rintro r u ⟨rfl, rfl⟩
    rw [HC.out]
    go_wp2
    refine bodyPost_ret (v := .agg #[.int .i64 cc, .int .i64 0]) (by simp [results, Tryd.results25, go_sem]) rfl ⟨rfl, ?_⟩
    repeat (first | exact Below.refl _ _ | (refine Below.alloc ?_ (by (try simp) <;> omega) _) | (refine Below.setCell ?_ (by (try simp) <;> omega) _))

set_option maxHeartbeats 2000000 in
theorem implPathOf_any (x : Option Addr) (c : Nat) (zs : List Int) (a : Int) (w : World) (hT : Tab w) (hp : Has w .i64 x zs.length zs) (hl : zs.length ≤ 1048576) (hc : zs.length ≤ c) (hm : c ≤ maxLen) :
    Calls Tryd.prog 15 #[.slice x zs.length c, .int .i64 a] w fun r w' => ∃ pa pc, r = .returned (.agg #[.int .i64 (ptC zs a), .slice pa (ptL zs a).length pc]) ∧ w'.ownsRow w.heap.size 2 1 (.slice pa (ptL zs a).length pc) (ptL zs a).length ((ptL zs a).map (.int .i64)) ∧ Below w.heap.size w w' := by
  by_cases h0 : lvF zs = 0
  · obtain ⟨h24, hall⟩ := lvF_zero h0
    have H0 : Hid (lvF zs = 0) := h0
    by_cases hin : 0 ≤ a ∧ a < zs.length
    · have hC : ptC zs a = 0 := by unfold ptC; rw [if_pos h0, if_pos hin]
      have hL : ptL zs a = ptM nS 11 zs a := by unfold ptL; rw [if_pos ⟨h0, hin⟩]
      rw [hC, hL]
      obtain ⟨a0, a1⟩ := hin
      clear hC hL h0
      have F1 := fldC1
      go_enter Tryd.func15, Tryd.ntmps15
      go_wp2_with fail
      refine (implLeavesFault_any x c zs _ (hp.alloc _) hl).mono ?_
      rintro r u ⟨rfl, rfl⟩
      rw [H0.out]
      go_wp2_with fail
      refine (climbLeaves_any x c zs a _ (hT.alloc _) (hp.alloc _) h24 hall a0 (.inl a1) hc hm).mono ?_
      rintro r u ⟨pa, pc, rfl, hown, hb1⟩
      obtain ⟨hc1, hf1⟩ := bcell hb1
      have hz1 := hb1.size
      simp at hz1
      have HO : Hid (u.ownsRow (w.heap.size + 1) 2 1 (.slice pa (ptM nS 11 zs a).length pc) (ptM nS 11 zs a).length ((ptM nS 11 zs a).map (.int .i64))) := by
        show World.ownsRow _ _ _ _ _ _ _
        simpa using hown
      clear hown
      go_wp2
      refine bodyPost_ret (v := .agg #[.int .i64 0, .slice pa (ptM nS 11 zs a).length pc]) (by simp [results, Tryd.results15, go_sem, hc1]) rfl ⟨pa, pc, rfl, ?_, ?_⟩
      · have fs : Fr (fun k => k = w.heap.size) u ((u.setCell ⟨w.heap.size, 0, none⟩ (.int .i64 0)).setCell ⟨w.heap.size, 1, none⟩ (.slice pa (ptM nS 11 zs a).length pc)) := by
          refine Fr.setCell (Fr.setCell (Fr.refl _ _) _ _ ?_) _ _ ?_ <;> rfl
        have h5 := own_fr HO.out fs (fun g e1 e2 => by have := (HO.out.lt g e1).1; omega)
        refine ⟨h5.1, ?_⟩
        rcases h5.2 with h6 | ⟨g, cap, cur, e1, e2, e3⟩
        · exact .inl h6
        · exact .inr ⟨g, cap, cur, e1, by omega, e3⟩
      · repeat (first | exact Below.refl _ _ | (refine Below.alloc ?_ (by (try simp) <;> omega) _) | (refine Below.setCell ?_ (by (try simp) <;> omega) _) | (refine Below.trans ?_ (hb1.mono (by (try simp) <;> omega))))
    · have hC : ptC zs a = 3 := by unfold ptC; rw [if_pos h0, if_neg hin]
      have hL : ptL zs a = [] := by unfold ptL; rw [if_neg (fun h => hin h.2)]
      rw [hC, hL]
      clear hC hL h0
      by_cases ha : a < 0
      · go_enter Tryd.func15, Tryd.ntmps15
        go_wp2_with fail
        refine (implLeavesFault_any x c zs _ (hp.alloc _) hl).mono ?_
        rintro r u ⟨rfl, rfl⟩
        rw [H0.out]
        go_wp2
        refine bodyPost_ret (v := .agg #[.int .i64 3, .slice none 0 0]) (by simp [results, Tryd.results15, go_sem]) rfl ⟨none, 0, rfl, World.ownsRow_nil _ _ _ _, ?_⟩
        repeat (first | exact Below.refl _ _ | (refine Below.alloc ?_ (by (try simp) <;> omega) _) | (refine Below.setCell ?_ (by (try simp) <;> omega) _))
      · have ha' : (zs.length : Int) ≤ a := by omega
        clear hin
        go_enter Tryd.func15, Tryd.ntmps15
        go_wp2_with fail
        refine (implLeavesFault_any x c zs _ (hp.alloc _) hl).mono ?_
        rintro r u ⟨rfl, rfl⟩
        rw [H0.out]
        go_wp2
        refine bodyPost_ret (v := .agg #[.int .i64 3, .slice none 0 0]) (by simp [results, Tryd.results15, go_sem]) rfl ⟨none, 0, rfl, World.ownsRow_nil _ _ _ _, ?_⟩
        repeat (first | exact Below.refl _ _ | (refine Below.alloc ?_ (by (try simp) <;> omega) _) | (refine Below.setCell ?_ (by (try simp) <;> omega) _))
  · have hC : ptC zs a = lvF zs := by unfold ptC; rw [if_neg h0]
    have hL : ptL zs a = [] := by unfold ptL; rw [if_neg (fun h => h0 h.1)]
    have h0' : (lvF zs != 0) = true := by simpa using h0
    rw [hC, hL]
    clear hC hL h0
    generalize hcc : lvF zs = cc at *
    have HC : Hid (lvF zs = cc) := hcc
    clear hcc
    go_enter Tryd.func15, Tryd.ntmps15
    go_wp2_with fail
    refine (implLeavesFault_any x c zs _ (hp.alloc _) hl).mono ?_
    rintro r u ⟨rfl, rfl⟩
    rw [HC.out]
    go_wp2
    refine bodyPost_ret (v := .agg #[.int .i64 cc, .slice none 0 0]) (by simp [results, Tryd.results15, go_sem]) rfl ⟨none, 0, rfl, World.ownsRow_nil _ _ _ _, ?_⟩
    repeat (first | exact Below.refl _ _ | (refine Below.alloc ?_ (by (try simp) <;> omega) _) | (refine Below.setCell ?_ (by (try simp) <;> omega) _))

end Go.Proofs.YtkjhcblfkpknlaaDoor
