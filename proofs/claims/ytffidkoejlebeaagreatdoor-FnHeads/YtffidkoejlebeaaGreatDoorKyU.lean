/- Contracts of the program's chapter 8: what is signed. -/
import Derived.Test.YtffidkoejlebeaaGreatDoorKyT
import Derived.Test.YtffidkoejlebeaaGreatDoorKyS
import Derived.Test.YtffidkoejlebeaaGreatDoorLvl
namespace Go.Proofs.YtffidkoejlebeaaGreatDoor
open Go.ChangeShapes Go.WideShapes Go.ChangeAt Go.RowKit
set_option maxRecDepth 100000
set_option linter.unusedVariables false
set_option linter.unusedSimpArgs false

attribute [local go_sem] Oper.semAt_some

/-- The activation of a round. -/
def actU (s i x : Int) (B : Nat) (x8 x27 : Value) : Act :=
  { tmps := #[.int .i64 s, .int .i64 i, .int .i64 x, .pointer (some ⟨B, 0, none⟩), .pointer (some ⟨B + 1, 0, none⟩), .pointer (some ⟨B + 1 + 1, 0, none⟩), .pointer (some ⟨B + 1 + 1 + 1, 0, none⟩), .pointer (some ⟨B + 1 + 1 + 1 + 1, 0, none⟩), x8, undef, undef, .int .i64 s, .bool true, .bool false, .bool false, .int .i64 i, .bool true, .bool false, .bool false, .bool false, .int .i64 x, .bool true, .bool false, .bool false, undef, .int .i64 i, .agg #[.int .i64 i, .slice none 0 0, .slice none 0 0], x27, undef, undef, undef, undef, undef, undef, undef, undef, undef, undef, undef, undef, undef, undef, undef, undef, undef, undef, undef, undef, undef, undef, undef, undef, undef, undef, undef], defers := [] }
theorem cell_j {u : World} {P T : Nat} {g : Nat → Int} {j : Nat} (h : Blk u P #[.int .i64 (g 0), .int .i64 (g 1)] T) (hj : j < 2) : u.cell? ⟨P, j, none⟩ = some (.int .i64 (g j)) := by
  have : j = 0 ∨ j = 1 := by omega
  rcases this with rfl | rfl
  · exact (h.cell 0).trans rfl
  · exact (h.cell 1).trans rfl
theorem abs_w {n : Nat} {X Y : World} (h : Below n X Y) : ∃ Z, Z = Y := ⟨_, rfl⟩
theorem abs_b {W : World} {p : Nat} {cs : Array Value} {T : Nat} (h : Blk W p cs T) : ∃ q, q = p := ⟨_, rfl⟩
theorem blk_al {n : Nat} {X Y : World} {cs : Array Value} {T : Nat} (h : Below n X (Y.alloc (.cells cs T))) : Blk (Y.alloc (.cells cs T)) Y.heap.size cs T := Blk.new _ _ _
theorem set_two {n p : Nat} {X Y : World} {v0 v1 x y : Value} {T : Nat} (D : Below n X Y) (h : Blk Y p #[v0, v1] T) (hp : n ≤ p) : Below n X ((Y.setCell ⟨p, 0, none⟩ x).setCell ⟨p, 1, none⟩ y) ∧ Blk ((Y.setCell ⟨p, 0, none⟩ x).setCell ⟨p, 1, none⟩ y) p #[x, y] T ∧ Fr (fun k => k = p) Y ((Y.setCell ⟨p, 0, none⟩ x).setCell ⟨p, 1, none⟩ y) :=
  ⟨(D.setCell hp _).setCell hp _, by have := (h.set 0 x).set 1 y; simpa using this, Fr.setCell (Fr.setCell (Fr.refl (fun k => k = p) Y) ⟨p, 0, none⟩ x rfl) ⟨p, 1, none⟩ y rfl⟩

set_option maxHeartbeats 4000000 in
theorem implSignSum_ok (s i x : Int) (w : World) (hT : Tab w) (hs : 0 ≤ s ∧ s ≤ 999) (h2 : 0 ≤ i ∧ i ≤ 7) (hx : 0 ≤ x ∧ x ≤ 65520) :
    Calls Tryz.prog 58 #[.int .i64 s, .int .i64 i, .int .i64 x] w fun r w' => ∃ a1 c1 a2 c2, r = .returned (.agg #[.int .i64 0, .int .i64 i, .slice a1 (shW s i x (List.range 16)).length c1, .slice a2 (otW s i x (List.range 16)).length c2]) ∧ OwnN w' w.heap.size (.slice a1 (shW s i x (List.range 16)).length c1) (shW s i x (List.range 16)) ∧ OwnN w' w.heap.size (.slice a2 (otW s i x (List.range 16)).length c2) (otW s i x (List.range 16)) ∧ (∀ y z, a1 = some y → a2 = some z → y.block ≠ z.block) ∧ Below w.heap.size w w' := by
  obtain ⟨i0, hi0, hz0, hz1, hz2⟩ := info_parts info64
  obtain ⟨B, hB⟩ : ∃ B, B = w.heap.size := ⟨_, rfl⟩
  have d1 : decide (0 ≤ s ∧ s ≤ 999) = true := by simpa using hs
  have d2 : decide (0 ≤ i ∧ i ≤ 7) = true := by simpa using h2
  have d3 : decide (0 ≤ x ∧ x ≤ 65520) = true := by simpa using hx
  refine (callsIn_wide (n := 5)).1 ?_
  refine callsIn_of_wp_marks Tryz.func58 rfl trivial ?_ rfl
  simp only [Tryz.ntmps58, List.size_toArray, List.length_cons, List.length_nil, Nat.reduceAdd, Nat.reduceSub, Array.replicate_succ, Array.replicate_zero, List.push_toArray, List.append_toArray, List.nil_append, List.cons_append]
  gi_wp2_with fail
  refine ⟨trivial, CallsIn.mono (callsIn_wide.2 (isSeed_any s _)) ?_⟩
  rintro r u ⟨rfl, hu⟩; have hu2 := hu.symm; subst hu2; clear hu
  rw [d1]
  gi_wp2_with fail
  refine ⟨trivial, CallsIn.mono (callsIn_wide.2 (isIndex_any i _)) ?_⟩
  rintro r u ⟨rfl, hu⟩; have hu2 := hu.symm; subst hu2; clear hu
  rw [d2]
  gi_wp2_with fail
  refine ⟨trivial, CallsIn.mono (callsIn_wide.2 (isSum_any x _)) ?_⟩
  rintro r u ⟨rfl, hu⟩; have hu2 := hu.symm; subst hu2; clear hu
  rw [d3]
  gi_wp2
  obtain ⟨W0, hW0⟩ : ∃ W0, W0 = (((((w.alloc (.cells #[.int .i64 s] 2)).alloc (.cells #[.int .i64 i] 2)).alloc (.cells #[.int .i64 x] 2)).alloc (.cells #[.int .i64 0, .int .i64 0, .slice none 0 0, .slice none 0 0] 90)).alloc (.cells #[.int .i64 i, .slice none 0 0, .slice none 0 0] 36)) := ⟨_, rfl⟩
  have zW0 : W0.heap.size = w.heap.size + 5 := by rw [hW0]; simp
  have b0 : Below w.heap.size w W0 := by rw [hW0]; exact (((((Below.refl _ _).alloc (Nat.le_refl _) _).alloc (by simp) _).alloc (by simp; omega) _).alloc (by simp; omega) _).alloc (by simp; omega) _
  have aU : ∀ (W : World) (o : Obj), Below W.heap.size W (W.alloc o) := fun W o => (Below.refl _ _).alloc (Nat.le_refl _) o
  have S0 : Blk W0 B #[.int .i64 s] 2 := by
    have h0 := ((((Blk.new w #[.int .i64 s] 2).below (aU _ (.cells #[.int .i64 i] 2)) (by simp)).below (aU _ (.cells #[.int .i64 x] 2)) (by first | (simp; done) | (simp; omega))).below (aU _ (.cells #[.int .i64 0, .int .i64 0, .slice none 0 0, .slice none 0 0] 90)) (by first | (simp; done) | (simp; omega))).below (aU _ (.cells #[.int .i64 i, .slice none 0 0, .slice none 0 0] 36)) (by first | (simp; done) | (simp; omega))
    rw [hW0, hB]; exact h0
  have I0 : Blk W0 (B + 1) #[.int .i64 i] 2 := by
    have h0 := (((Blk.new (w.alloc (.cells #[.int .i64 s] 2)) #[.int .i64 i] 2).below (aU _ (.cells #[.int .i64 x] 2)) (by simp)).below (aU _ (.cells #[.int .i64 0, .int .i64 0, .slice none 0 0, .slice none 0 0] 90)) (by first | (simp; done) | (simp; omega))).below (aU _ (.cells #[.int .i64 i, .slice none 0 0, .slice none 0 0] 36)) (by first | (simp; done) | (simp; omega))
    rw [World.size_alloc] at h0
    rw [hW0, hB]; exact h0
  have X0 : Blk W0 (B + 1 + 1) #[.int .i64 x] 2 := by
    have h0 := ((Blk.new ((w.alloc (.cells #[.int .i64 s] 2)).alloc (.cells #[.int .i64 i] 2)) #[.int .i64 x] 2).below (aU _ (.cells #[.int .i64 0, .int .i64 0, .slice none 0 0, .slice none 0 0] 90)) (by simp)).below (aU _ (.cells #[.int .i64 i, .slice none 0 0, .slice none 0 0] 36)) (by first | (simp; done) | (simp; omega))
    rw [World.size_alloc, World.size_alloc] at h0
    rw [hW0, hB]; exact h0
  have R0 : Blk W0 (B + 1 + 1 + 1) #[.int .i64 0, .int .i64 0, .slice none 0 0, .slice none 0 0] 90 := by
    have h0 := (Blk.new (((w.alloc (.cells #[.int .i64 s] 2)).alloc (.cells #[.int .i64 i] 2)).alloc (.cells #[.int .i64 x] 2)) #[.int .i64 0, .int .i64 0, .slice none 0 0, .slice none 0 0] 90).below (aU _ (.cells #[.int .i64 i, .slice none 0 0, .slice none 0 0] 36)) (by simp)
    rw [World.size_alloc, World.size_alloc, World.size_alloc] at h0
    rw [hW0, hB]; exact h0
  have V0 : Blk W0 (B + 1 + 1 + 1 + 1) #[.int .i64 i, .slice none 0 0, .slice none 0 0] 36 := by
    have h0 := Blk.new ((((w.alloc (.cells #[.int .i64 s] 2)).alloc (.cells #[.int .i64 i] 2)).alloc (.cells #[.int .i64 x] 2)).alloc (.cells #[.int .i64 0, .int .i64 0, .slice none 0 0, .slice none 0 0] 90)) #[.int .i64 i, .slice none 0 0, .slice none 0 0] 36
    rw [World.size_alloc, World.size_alloc, World.size_alloc, World.size_alloc] at h0
    rw [hW0, hB]; exact h0
  rw [← hW0, ← hB]
  have HB : Hid (B = w.heap.size) := hB
  have zB : W0.heap.size = B + 1 + 1 + 1 + 1 + 1 := by omega
  clear hW0 aU hB zW0 d1 d2 d3
  obtain ⟨V, hV⟩ : ∃ V, V = B + 1 + 1 + 1 + 1 := ⟨_, rfl⟩
  have L0 : SgS V W0 i (shW s i x []) (otW s i x []) W0 (.slice none 0 0) (.slice none 0 0) := ⟨by rw [hV]; exact V0, World.ownsRow_nil _ _ _ _, World.ownsRow_nil _ _ _ _, (fun g e => by simp [Value.ownBlock] at e), Fr.refl _ _⟩
  have HV : Hid (V = B + 1 + 1 + 1 + 1) := hV
  have zV : W0.heap.size = V + 1 := by omega
  have BV : B + 4 = V := by omega
  have BVh : Hid (B + 4 = V) := BV
  have BWF : Hid (∀ Y : World, Fr (fun k => k = V) W0 Y → Below w.heap.size w Y) := fun Y hf => b0.trans (hf.below (B := w.heap.size) (by rintro j e; have := HB.out; omega) (by have := HB.out; omega))
  have TabOf : Hid (∀ Y : World, Fr (fun k => k = V) W0 Y → Tab Y) := fun Y hf => hT.below (BWF.out Y hf) (Nat.le_refl _)
  have LS : Hid (∀ bs, (shW s i x bs).length = bs.length ∧ (otW s i x bs).length = bs.length) := fun bs => ⟨shW_len s i x bs, otW_len s i x bs⟩
  have SN : Hid (∀ (bs : List Nat) (b : Nat), shW s i x (bs ++ [b]) = shW s i x bs ++ [secV s i b (bitV x b)]) := fun bs b => shW_snoc s i x bs b
  have ON : Hid (∀ (bs : List Nat) (b : Nat), otW s i x (bs ++ [b]) = otW s i x bs ++ [opnV (secV s i b (1 - bitV x b))]) := fun bs b => otW_snoc s i x bs b
  have EN : Hid ((upB 16 (Nat.le_refl _)).map (fun x => x.1) = List.range 16) := upB_val 16 _
  clear hV BV V0 hT
  refine wpIn_rangeFunc_ownH (F := Fence.wide) rfl (by decide) (gf := 88) (lb := #[]) rfl trivial (enters_of Tryz.func88 (by kernel_rfl) rfl)
    (bits_stops 4 W0) (fun _ _ => trivial) (fun _ _ _ _ _ _ _ _ => trivial) (Below.refl _ _) (fun _ => rfl)
    (fun pre X => ∃ sv ov, SgS V W0 i (shW s i x (pre.map (fun x => x.1))) (otW s i x (pre.map (fun x => x.1))) X sv ov) (fun _ _ _ => False)
    (fun st X Y row hs hg hr => by obtain ⟨sv, ov, h⟩ := hs; exact ⟨sv, ov, h.kept (by omega) hg hr⟩) (fun _ _ _ _ _ hs _ _ => hs) ⟨.slice none 0 0, .slice none 0 0, L0⟩
    (fun x0 b' X => b' = actU s i x B (.int .i64 x0.1) (.int .i64 x0.1))
    (fun x0 b' st X Y row hs hg hr => hs) ?assign ?body ?done ?stop
  case assign =>
    rintro l pre x0 X K' ⟨sv, ov, hi⟩ hK'
    unfold encB
    gi_wp2
    exact hK' _ _ ((KeepsOthers.refl X).from _) trivial ⟨sv, ov, hi⟩ rfl
  case body =>
    rintro l pre ⟨k, hk⟩ b' X hl' - ⟨sv, ov, hi⟩ rfl hlt
    dsimp only
    have hk' : (k : Int) < 16 := by omega
    have SX := S0.fr hi.fr (by have := BVh.out; omega)
    have IX := I0.fr hi.fr (by have := BVh.out; omega)
    have XX := X0.fr hi.fr (by have := BVh.out; omega)
    obtain ⟨j, hj⟩ : ∃ j : Nat, bitV x k = j := ⟨(bitV x k).toNat, by have := bitV_01 x k; omega⟩
    have hj2 : j < 2 := by have := bitV_01 x k; omega
    have hj3 : (j : Int) < 2 := by omega
    obtain ⟨g, hg⟩ : ∃ g : Nat → Int, g = fun d : Nat => secV s i k d := ⟨_, rfl⟩
    have hgd : ∀ d : Nat, secV s i k d = g d := fun d => by rw [hg]
    obtain ⟨h, hh⟩ : ∃ h : Nat → Int, h = fun d : Nat => opnV (g d) := ⟨_, rfl⟩
    have hhd : ∀ d : Nat, opnV (g d) = h d := fun d => by rw [hh]
    have gb : ∀ d : Nat, 0 ≤ g d ∧ g d ≤ 65520 := fun d => by rw [← hgd]; exact secV_bd _ _ _ _
    have ej : (1 : Int) - j = ((1 - j : Nat) : Int) := by omega
    have HSN : Hid (shW s i x (pre.map (fun x => x.1) ++ [k]) = shW s i x (pre.map (fun x => x.1)) ++ [g j]) := by show _ = _; rw [SN.out, hj, hgd]
    have HON : Hid (otW s i x (pre.map (fun x => x.1) ++ [k]) = otW s i x (pre.map (fun x => x.1)) ++ [h (1 - j)]) := by show _ = _; rw [ON.out, hj, ej, hgd, hhd]
    have SO : Hid (∀ Y : World, Below X.heap.size X Y → Calls Tryz.prog 89 #[.int .i64 s, .int .i64 i, .int .i64 k] Y fun r w' => r = .returned (.agg #[.int .i64 (g 0), .int .i64 (g 1)]) ∧ Below Y.heap.size Y w') := fun Y hb => by
      have := secretsOf_any s i k Y ((TabOf.out X hi.fr).below hb (Nat.le_refl _)) hs h2 (by omega)
      rw [show secV s i k 0 = g 0 from hgd 0, show secV s i k 1 = g 1 from hgd 1] at this
      exact this
    have SD : ∀ u : World, Calls Tryz.prog 90 #[.int .i64 x, .int .i64 k] u fun r w' => r = .returned (.int .i64 j) ∧ w' = u := fun u => by
      have := sideOf_any x k u hx (by omega)
      rw [hj] at this
      exact this
    have PUB : Hid (∀ Y : World, Fr (fun k => k = V) W0 Y → Calls Tryz.prog 91 #[.agg #[.int .i64 (g 0), .int .i64 (g 1)]] Y fun r w' => r = .returned (.agg #[.int .i64 (h 0), .int .i64 (h 1)]) ∧ Below Y.heap.size Y w') := fun Y hf => by
      have := sidesPublic_any (g 0) (g 1) Y (TabOf.out Y hf) (gb 0) (gb 1)
      rw [hhd, hhd] at this
      exact this
    have OS : ∀ u : World, Calls Tryz.prog 92 #[.int .i64 j] u fun r w' => r = .returned (.int .i64 ((1 - j : Nat) : Int)) ∧ w' = u := fun u => by
      have := otherSide_any j u (by omega) (by omega)
      rw [ej] at this
      exact this
    have IDX : ∀ w : World, (Instr.index 120 (.agg #[.int .i64 (h 0), .int .i64 (h 1)]) (.int .i64 ((1 - j : Nat) : Int))).run Tryz.prog w = .ok (.int .i64 (h (1 - j))) w := fun w => idxS h (by omega) w
    have hu : (shW s i x (pre.map (fun x => x.1))).length ≤ 600 ∧ (otW s i x (pre.map (fun x => x.1))).length ≤ 600 := by have := LS.out (pre.map (fun x => x.1)); rw [List.length_map] at this; omega
    clear hg hh hgd hhd gb ej hj SN ON LS
    generalize hsh : shW s i x (pre.map (fun x => x.1)) = sh at *
    generalize hot : otW s i x (pre.map (fun x => x.1)) = ot at *
    have FIN : ∀ (Z : World) (sv2 ov2 : Value), SgS V W0 i (sh ++ [g j]) (ot ++ [h (1 - j)]) Z sv2 ov2 → Fr (fun q => q = V ∨ sv.ownBlock = some q ∨ ov.ownBlock = some q) X Z → KeepsFrom W0.heap.size X Z ∧ True ∧ ∃ sv ov, SgS V W0 i (shW s i x ((pre ++ [(⟨k, hk⟩ : Bt)]).map (fun x => x.1))) (otW s i x ((pre ++ [(⟨k, hk⟩ : Bt)]).map (fun x => x.1))) Z sv ov := fun Z sv2 ov2 hz hf => by
      refine ⟨hi.pays (by omega) hf, trivial, sv2, ov2, ?_⟩
      rw [List.map_append, List.map_singleton]
      rw [HSN.out, HON.out]
      exact hz
    have zX : W0.heap.size ≤ X.heap.size := hi.fr.size
    obtain ⟨hu1, hu2⟩ := hu
    have D : Below X.heap.size X X.drew := (Below.refl _ _).drew
    clear HSN HON hsh hot
    unfold actU
    gi_wp2_with fail
    simp only [← HV.out]
    refine wpIn_round_held (S := fun u => Blk u B #[.int .i64 s] 2 ∧ Blk u (B + 1) #[.int .i64 i] 2 ∧ Blk u (B + 1 + 1) #[.int .i64 x] 2) (by kernel_rfl) (by kernel_rfl) (fun ⟨_, _, h⟩ => h) ⟨SX.below (Below.refl _ _).drew SX.lt, IX.below (Below.refl _ _).drew IX.lt, XX.below (Below.refl _ _).drew XX.lt⟩ (fun hs => ?_)
    obtain ⟨XD, hXD⟩ := abs_w D
    rw [← hXD] at D hs
    simp only [← hXD]
    clear hXD
    refine take_at (i := 0) (d := some 28) (v := ?mv1) rfl rfl (by kernel_rfl) (by kernel_rfl) (by kernel_rfl) (fun _ _ _ h => h) (Or.inl ⟨by rfl, ?my1⟩) hs ?mg1
    case my1 => (intro z hSz; (obtain ⟨hz1, hz2, hz3⟩ := hSz; have e0 := hz1.cell 0; have e1 := hz2.cell 0; have e2 := hz3.cell 0; simp at e0 e1 e2); go_simp; (try with_reducible rfl))
    try simp only [Act.put, List.setIfInBounds_toArray, List.set_cons_zero, List.set_cons_succ]
    refine take_at (i := 1) (d := some 29) (v := ?mv2) rfl rfl (by kernel_rfl) (by kernel_rfl) (by kernel_rfl) (fun _ _ _ h => h) (Or.inl ⟨by rfl, ?my2⟩) hs ?mg2
    case my2 => (intro z hSz; (obtain ⟨hz1, hz2, hz3⟩ := hSz; have e0 := hz1.cell 0; have e1 := hz2.cell 0; have e2 := hz3.cell 0; simp at e0 e1 e2); go_simp; (try with_reducible rfl))
    try simp only [Act.put, List.setIfInBounds_toArray, List.set_cons_zero, List.set_cons_succ]
    refine take_at (i := 2) (d := some 30) (v := ?mv3) rfl rfl (by kernel_rfl) (by kernel_rfl) (by kernel_rfl) (fun _ _ _ h => h) (Or.inl ⟨by rfl, ?my3⟩) hs ?mg3
    case my3 => (intro z hSz; (obtain ⟨hz1, hz2, hz3⟩ := hSz; have e0 := hz1.cell 0; have e1 := hz2.cell 0; have e2 := hz3.cell 0; simp at e0 e1 e2); go_simp; (try with_reducible rfl))
    try simp only [Act.put, List.setIfInBounds_toArray, List.set_cons_zero, List.set_cons_succ]
    refine take_at (i := 4) (d := some 32) (v := ?mv4) rfl rfl (by kernel_rfl) (by kernel_rfl) (by kernel_rfl) (fun _ _ _ h => h) (Or.inl ⟨by rfl, ?my4⟩) hs ?mg4
    case my4 => (intro z hSz; (obtain ⟨hz1, hz2, hz3⟩ := hSz; have e0 := hz1.cell 0; have e1 := hz2.cell 0; have e2 := hz3.cell 0; simp at e0 e1 e2); go_simp; (try with_reducible rfl))
    try simp only [Act.put, List.setIfInBounds_toArray, List.set_cons_zero, List.set_cons_succ]
    refine take_at (i := 5) (d := some 33) (v := ?mv5) rfl rfl (by kernel_rfl) (by kernel_rfl) (by kernel_rfl) (fun _ _ _ h => h) (Or.inl ⟨by rfl, ?my5⟩) hs ?mg5
    case my5 => (intro z hSz; (obtain ⟨hz1, hz2, hz3⟩ := hSz; have e0 := hz1.cell 0; have e1 := hz2.cell 0; have e2 := hz3.cell 0; simp at e0 e1 e2); go_simp; (try with_reducible rfl))
    try simp only [Act.put, List.setIfInBounds_toArray, List.set_cons_zero, List.set_cons_succ]
    refine wpAnyH_ready (rs := [3, 7]) (by kernel_rfl) (by simp) ?_
    refine AllReadyH.cons rfl (fun K' hK' => ?_) (AllReadyH.cons rfl (fun K' hK' => ?_) AllReadyH.nil)
    · go_simp
      refine (SO.out _ D).mono ?_
      rintro _ u3 ⟨rfl, hb3⟩
      have D1 := D.trans (hb3.mono D.size)
      refine hK'.out _ _ ⟨hs.1.below hb3 hs.1.lt, hs.2.1.below hb3 hs.2.1.lt, hs.2.2.below hb3 hs.2.2.lt⟩ (fun hs => ?_)
      clear hK' K'
      try simp only [Act.put, List.setIfInBounds_toArray, List.set_cons_zero, List.set_cons_succ]
      have D := D1
      (try replace PB := PB.below hb3 PB.lt)
      refine wpAnyH_ready (rs := [6, 7]) (by kernel_rfl) (by simp) ?_
      refine AllReadyH.cons rfl (fun K' hK' => ?_) (AllReadyH.cons rfl (fun K' hK' => ?_) AllReadyH.nil)
      · go_simp
        refine (SD _).mono ?_
        rintro _ z ⟨rfl, hz⟩
        subst hz
        refine hK'.out _ _ hs (fun hs => ?_)
        clear hK' K'
        try simp only [Act.put, List.setIfInBounds_toArray, List.set_cons_zero, List.set_cons_succ]
        refine wpAnyH_ready (rs := [7]) (by kernel_rfl) (by simp) ?_
        refine AllReadyH.cons rfl (fun K' hK' => ?_) AllReadyH.nil
        have nP := D.size
        go_simp
        refine hK'.out _ _ ⟨hs.1.below ((Below.refl _ _).alloc (Nat.le_refl _) _) hs.1.lt, hs.2.1.below ((Below.refl _ _).alloc (Nat.le_refl _) _) hs.2.1.lt, hs.2.2.below ((Below.refl _ _).alloc (Nat.le_refl _) _) hs.2.2.lt⟩ (fun hs => ?_)
        clear hK' K'
        try simp only [Act.put, List.setIfInBounds_toArray, List.set_cons_zero, List.set_cons_succ]
        have D := D.alloc D.size (.cells #[.int .i64 0, .int .i64 0] 120)
        have PB := blk_al D
        obtain ⟨A6, h6⟩ := abs_w D
        rw [← h6] at D PB hs
        simp only [← h6]
        clear h6
        obtain ⟨P, hP⟩ := abs_b PB
        rw [← hP] at PB nP
        simp only [← hP]
        clear hP
        refine wpAnyH_ready (rs := [8]) (by kernel_rfl) (by simp) ?_
        refine AllReadyH.cons rfl (fun K' hK' => ?_) AllReadyH.nil
        have c0 := PB.cell 0
        have c1 := PB.cell 1
        have c2 := PB.frozen 0
        have c3 := PB.frozen 1
        simp at c0 c1
        obtain ⟨D2, PB2, F2⟩ := set_two (x := .int .i64 (g 0)) (y := .int .i64 (g 1)) D PB nP
        go_simp
        refine hK'.out _ _ ⟨hs.1.fr F2 (fun e => absurd e (Nat.ne_of_lt (Nat.lt_of_lt_of_le SX.lt nP))), hs.2.1.fr F2 (fun e => absurd e (Nat.ne_of_lt (Nat.lt_of_lt_of_le IX.lt nP))), hs.2.2.fr F2 (fun e => absurd e (Nat.ne_of_lt (Nat.lt_of_lt_of_le XX.lt nP)))⟩ (fun hs => ?_)
        clear hK' K'
        try simp only [Act.put, List.setIfInBounds_toArray, List.set_cons_zero, List.set_cons_succ]
        refine wpAnyH_ready (rs := [9]) (by kernel_rfl) (by simp) ?_
        refine AllReadyH.cons rfl (fun K' hK' => ?_) AllReadyH.nil
        go_simp
        refine hK'.out _ _ hs (fun hs => ?_)
        clear hK' K'
        try simp only [Act.put, List.setIfInBounds_toArray, List.set_cons_zero, List.set_cons_succ]
        refine wpAnyH_done (by kernel_rfl) ?_ _
        have D := D2
        have PB := PB2
        obtain ⟨Y, hY⟩ := abs_w D
        rw [← hY] at D PB
        clear D2 PB2 F2 c0 c1 c2 c3 hs SO SD SX IX XX
        gi_wp2_with fail
        simp only [← hY]
        clear hY
        have DXY := D
        clear D
        have HY := hi.below DXY
        have zY : W0.heap.size ≤ Y.heap.size := HY.fr.size
        have D : Below Y.heap.size Y Y.drew := (Below.refl _ _).drew
        refine wpIn_round_held (S := fun u => Blk u P #[.int .i64 (g 0), .int .i64 (g 1)] 120) (by kernel_rfl) (by kernel_rfl) (fun ⟨_, _, h⟩ => h) (PB.below (Below.refl _ _).drew PB.lt) (fun hs => ?_)
        obtain ⟨YD, hYD⟩ := abs_w D
        rw [← hYD] at D hs
        simp only [← hYD]
        clear hYD
        refine take_at (i := 0) (d := some 35) (v := ?mv6) rfl rfl (by kernel_rfl) (by kernel_rfl) (by kernel_rfl) (fun _ _ _ h => h) (Or.inl ⟨by rfl, ?my6⟩) hs ?mg6
        case my6 => (intro z hSz; (have e0 := cell_j (g := g) hSz hj2); go_simp; (try with_reducible rfl))
        try simp only [Act.put, List.setIfInBounds_toArray, List.set_cons_zero, List.set_cons_succ]
        refine take_at (i := 2) (d := some 37) (v := ?mv7) rfl rfl (by kernel_rfl) (by kernel_rfl) (by kernel_rfl) (fun _ _ _ h => h) (Or.inl ⟨by rfl, ?my7⟩) hs ?mg7
        case my7 => (intro z hSz; (have e0 := cell_j (g := g) hSz hj2); go_simp; (try with_reducible rfl))
        try simp only [Act.put, List.setIfInBounds_toArray, List.set_cons_zero, List.set_cons_succ]
        refine take_at (i := 3) (d := some 38) (v := ?mv8) rfl rfl (by kernel_rfl) (by kernel_rfl) (by kernel_rfl) (fun _ _ _ h => h) (Or.inl ⟨by rfl, ?my8⟩) hs ?mg8
        case my8 => (intro z hSz; (have e0 := cell_j (g := g) hSz hj2); go_simp; (try with_reducible rfl))
        try simp only [Act.put, List.setIfInBounds_toArray, List.set_cons_zero, List.set_cons_succ]
        refine take_at (i := 4) (d := some 39) (v := ?mv9) rfl rfl (by kernel_rfl) (by kernel_rfl) (by kernel_rfl) (fun _ _ _ h => h) (Or.inl ⟨by rfl, ?my9⟩) hs ?mg9
        case my9 => (intro z hSz; (have e0 := cell_j (g := g) hSz hj2); go_simp; (try with_reducible rfl))
        try simp only [Act.put, List.setIfInBounds_toArray, List.set_cons_zero, List.set_cons_succ]
        refine wpAnyH_ready (rs := [1, 5]) (by kernel_rfl) (by simp) ?_
        refine AllReadyH.cons rfl (fun K' hK' => ?_) (AllReadyH.cons rfl (fun K' hK' => ?_) AllReadyH.nil)
        · have v1 := (HY.below D).v.cell 1
          simp at v1
          go_simp
          refine hK'.out _ _ hs (fun hs => ?_)
          clear hK' K'
          try simp only [Act.put, List.setIfInBounds_toArray, List.set_cons_zero, List.set_cons_succ]
          clear v1
          refine wpAnyH_ready (rs := [5]) (by kernel_rfl) (by simp) ?_
          refine AllReadyH.cons rfl (fun K' hK' => ?_) AllReadyH.nil
          go_simp
          refine hK'.out _ _ (hs.below ((Below.refl _ _).alloc (Nat.le_refl _) _) hs.lt) (fun hs => ?_)
          clear hK' K'
          try simp only [Act.put, List.setIfInBounds_toArray, List.set_cons_zero, List.set_cons_succ]
          have D := D.alloc D.size (.cells #[.int .i64 (g j)] 2)
          refine wpAnyH_ready (rs := [6]) (by kernel_rfl) (by simp) ?_
          refine AllReadyH.cons rfl (fun K' hK' => ?_) AllReadyH.nil
          refine step_app1 rfl _ _ 34 rfl W0.heap.size 2 i0 Tryz.underlying34 hi0 hz0 hz1 hz2 sv sh.length (sh.map (.int .i64)) rfl (HY.below D).s _ 1 (g j) rfl (by simp [go_sem]) (by omega) (Nat.le_trans zY D.size) ?_
          intro g' c' w3 hown hgrow hnew
          obtain ⟨E1, V3, F3⟩ := HY.show1 (by omega) D hown hgrow hnew
          have nB : sv.ownBlock ≠ some P := fun e => by have := own_ne hi.s P e; omega
          refine hK'.out _ _ (hs.fr (M := fun q => sv.ownBlock = some q) (.of_grown hgrow (fun q e => e)) nB) (fun hs => ?_)
          clear hK' K'
          try simp only [Act.put, List.setIfInBounds_toArray, List.set_cons_zero, List.set_cons_succ]
          have k1 := V3.cell 1
          have k3 := V3.frozen 1
          simp at k1
          refine wpAnyH_ready (rs := [7]) (by kernel_rfl) (by simp) ?_
          refine AllReadyH.cons rfl (fun K' hK' => ?_) AllReadyH.nil
          go_simp
          refine hK'.out _ _ hs (fun hs => ?_)
          clear hK' K'
          try simp only [Act.put, List.setIfInBounds_toArray, List.set_cons_zero, List.set_cons_succ]
          refine wpAnyH_ready (rs := [8]) (by kernel_rfl) (by simp) ?_
          refine AllReadyH.cons rfl (fun K' hK' => ?_) AllReadyH.nil
          go_simp
          refine hK'.out _ _ (hs.fr (M := fun q => q = V) (by refine Fr.setCell (Fr.refl _ _) _ _ ?_; rfl) (show P ≠ V by omega)) (fun hs => ?_)
          clear hK' K'
          try simp only [Act.put, List.setIfInBounds_toArray, List.set_cons_zero, List.set_cons_succ]
          refine wpAnyH_done (by kernel_rfl) ?_ _
          obtain ⟨Y2, hY2⟩ : ∃ Z, Z = w3.setCell ⟨V, 1, none⟩ (Value.slice (some ⟨g', 0, none⟩) (sh.length + 1) c') := ⟨_, rfl⟩
          rw [← hY2] at E1 F3 hs
          have PB3 := hs
          clear hs k1 k3 V3 hown hgrow hnew D PB
          gi_wp2_with fail
          simp only [← hY2]
          clear hY2
          have zY2 : W0.heap.size ≤ Y2.heap.size := E1.fr.size
          have D : Below Y2.heap.size Y2 Y2.drew := (Below.refl _ _).drew
          refine wpIn_round_held (S := fun u => Blk u P #[.int .i64 (g 0), .int .i64 (g 1)] 120) (by kernel_rfl) (by kernel_rfl) (fun ⟨_, _, h⟩ => h) (PB3.below (Below.refl _ _).drew PB3.lt) (fun hs => ?_)
          obtain ⟨ZD, hZD⟩ := abs_w D
          rw [← hZD] at D hs
          simp only [← hZD]
          clear hZD
          refine take_at (i := 0) (d := some 43) (v := ?mv10) rfl rfl (by kernel_rfl) (by kernel_rfl) (by kernel_rfl) (fun _ _ _ h => h) (Or.inl ⟨by rfl, ?my10⟩) hs ?mg10
          case my10 => (intro z hSz; (have e0 := hSz.cell 0; have e1 := hSz.cell 1; simp at e0 e1); go_simp; (try with_reducible rfl))
          try simp only [Act.put, List.setIfInBounds_toArray, List.set_cons_zero, List.set_cons_succ]
          refine take_at (i := 2) (d := some 45) (v := ?mv11) rfl rfl (by kernel_rfl) (by kernel_rfl) (by kernel_rfl) (fun _ _ _ h => h) (Or.inl ⟨by rfl, ?my11⟩) hs ?mg11
          case my11 => (intro z hSz; (have e0 := hSz.cell 0; have e1 := hSz.cell 1; simp at e0 e1); go_simp; (try with_reducible rfl))
          try simp only [Act.put, List.setIfInBounds_toArray, List.set_cons_zero, List.set_cons_succ]
          refine take_at (i := 4) (d := some 47) (v := ?mv12) rfl rfl (by kernel_rfl) (by kernel_rfl) (by kernel_rfl) (fun _ _ _ h => h) (Or.inl ⟨by rfl, ?my12⟩) hs ?mg12
          case my12 => (intro z hSz; (have e0 := hSz.cell 0; have e1 := hSz.cell 1; simp at e0 e1); go_simp; (try with_reducible rfl))
          try simp only [Act.put, List.setIfInBounds_toArray, List.set_cons_zero, List.set_cons_succ]
          refine wpAnyH_ready (rs := [1, 3]) (by kernel_rfl) (by simp) ?_
          refine AllReadyH.cons rfl (fun K' hK' => ?_) (AllReadyH.cons rfl (fun K' hK' => ?_) AllReadyH.nil)
          · have v1 := (E1.below D).v.cell 2
            simp at v1
            go_simp
            refine hK'.out _ _ hs (fun hs => ?_)
            clear hK' K'
            try simp only [Act.put, List.setIfInBounds_toArray, List.set_cons_zero, List.set_cons_succ]
            clear v1
            refine wpAnyH_ready (rs := [3]) (by kernel_rfl) (by simp) ?_
            refine AllReadyH.cons rfl (fun K' hK' => ?_) AllReadyH.nil
            go_simp
            refine (PUB.out _ (E1.below D).fr).mono ?_
            rintro _ u4 ⟨rfl, hb4⟩
            have D1 := D.trans (hb4.mono D.size)
            refine hK'.out _ _ (hs.below hb4 hs.lt) (fun hs => ?_)
            clear hK' K'
            try simp only [Act.put, List.setIfInBounds_toArray, List.set_cons_zero, List.set_cons_succ]
            have D := D1
            refine wpAnyH_ready (rs := [5]) (by kernel_rfl) (by simp) ?_
            refine AllReadyH.cons rfl (fun K' hK' => ?_) AllReadyH.nil
            go_simp
            refine (OS _).mono ?_
            rintro _ z ⟨rfl, hz⟩
            subst hz
            refine hK'.out _ _ hs (fun hs => ?_)
            clear hK' K'
            try simp only [Act.put, List.setIfInBounds_toArray, List.set_cons_zero, List.set_cons_succ]
            refine take_at (i := 6) (d := some 49) (v := ?mv13) rfl rfl (by kernel_rfl) (by kernel_rfl) (by kernel_rfl) (fun _ _ _ h => h) (Or.inl ⟨by rfl, ?my13⟩) hs ?mg13
            case my13 => (intro z hSz; (have e0 := hSz.cell 0; have e1 := hSz.cell 1; simp at e0 e1); go_simp; (try with_reducible rfl))
            try simp only [Act.put, List.setIfInBounds_toArray, List.set_cons_zero, List.set_cons_succ]
            refine wpAnyH_ready (rs := [7]) (by kernel_rfl) (by simp) ?_
            refine AllReadyH.cons rfl (fun K' hK' => ?_) AllReadyH.nil
            go_simp
            refine hK'.out _ _ (hs.below ((Below.refl _ _).alloc (Nat.le_refl _) _) hs.lt) (fun hs => ?_)
            clear hK' K'
            try simp only [Act.put, List.setIfInBounds_toArray, List.set_cons_zero, List.set_cons_succ]
            have D := D.alloc D.size (.cells #[.int .i64 (h (1 - j))] 2)
            refine wpAnyH_ready (rs := [8]) (by kernel_rfl) (by simp) ?_
            refine AllReadyH.cons rfl (fun K' hK' => ?_) AllReadyH.nil
            refine step_app1 rfl _ _ 34 rfl W0.heap.size 2 i0 Tryz.underlying34 hi0 hz0 hz1 hz2 ov ot.length (ot.map (.int .i64)) rfl (E1.below D).o _ 1 (h (1 - j)) rfl (by simp [go_sem]) (by omega) (Nat.le_trans zY2 D.size) ?_
            intro g' c' w3 hown hgrow hnew
            obtain ⟨E2, V4, F4⟩ := E1.other1 (by omega) D hown hgrow hnew
            have nB : ov.ownBlock ≠ some P := fun e => by have := own_ne hi.o P e; omega
            refine hK'.out _ _ (hs.fr (M := fun q => ov.ownBlock = some q) (.of_grown hgrow (fun q e => e)) nB) (fun hs => ?_)
            clear hK' K'
            try simp only [Act.put, List.setIfInBounds_toArray, List.set_cons_zero, List.set_cons_succ]
            have k1 := V4.cell 2
            have k3 := V4.frozen 2
            simp at k1
            refine wpAnyH_ready (rs := [9]) (by kernel_rfl) (by simp) ?_
            refine AllReadyH.cons rfl (fun K' hK' => ?_) AllReadyH.nil
            go_simp
            refine hK'.out _ _ hs (fun hs => ?_)
            clear hK' K'
            try simp only [Act.put, List.setIfInBounds_toArray, List.set_cons_zero, List.set_cons_succ]
            refine wpAnyH_ready (rs := [10]) (by kernel_rfl) (by simp) ?_
            refine AllReadyH.cons rfl (fun K' hK' => ?_) AllReadyH.nil
            go_simp
            refine hK'.out _ _ (hs.fr (M := fun q => q = V) (by refine Fr.setCell (Fr.refl _ _) _ _ ?_; rfl) (show P ≠ V by omega)) (fun hs => ?_)
            clear hK' K'
            try simp only [Act.put, List.setIfInBounds_toArray, List.set_cons_zero, List.set_cons_succ]
            refine wpAnyH_done (by kernel_rfl) ?_ _
            have FC : Fr (fun q => q = V ∨ sv.ownBlock = some q ∨ ov.ownBlock = some q) X _ := ((Fr.of_below DXY (Nat.le_refl _)).trans F3 (fun i _ e => e.elim .inl (fun e => .inr (.inl e)))).trans F4 (fun i _ e => e.elim .inl (fun e => .inr (.inr e)))
            exact FIN _ _ _ E2 FC
          · go_simp
            refine (PUB.out _ (E1.below D).fr).mono ?_
            rintro _ u4 ⟨rfl, hb4⟩
            have D1 := D.trans (hb4.mono D.size)
            refine hK'.out _ _ (hs.below hb4 hs.lt) (fun hs => ?_)
            clear hK' K'
            try simp only [Act.put, List.setIfInBounds_toArray, List.set_cons_zero, List.set_cons_succ]
            have D := D1
            refine wpAnyH_ready (rs := [1, 5]) (by kernel_rfl) (by simp) ?_
            refine AllReadyH.cons rfl (fun K' hK' => ?_) (AllReadyH.cons rfl (fun K' hK' => ?_) AllReadyH.nil)
            · have v1 := (E1.below D).v.cell 2
              simp at v1
              go_simp
              refine hK'.out _ _ hs (fun hs => ?_)
              clear hK' K'
              try simp only [Act.put, List.setIfInBounds_toArray, List.set_cons_zero, List.set_cons_succ]
              clear v1
              refine wpAnyH_ready (rs := [5]) (by kernel_rfl) (by simp) ?_
              refine AllReadyH.cons rfl (fun K' hK' => ?_) AllReadyH.nil
              go_simp
              refine (OS _).mono ?_
              rintro _ z ⟨rfl, hz⟩
              subst hz
              refine hK'.out _ _ hs (fun hs => ?_)
              clear hK' K'
              try simp only [Act.put, List.setIfInBounds_toArray, List.set_cons_zero, List.set_cons_succ]
              refine take_at (i := 6) (d := some 49) (v := ?mv14) rfl rfl (by kernel_rfl) (by kernel_rfl) (by kernel_rfl) (fun _ _ _ h => h) (Or.inl ⟨by rfl, ?my14⟩) hs ?mg14
              case my14 => (intro z hSz; (have e0 := hSz.cell 0; have e1 := hSz.cell 1; simp at e0 e1); go_simp; (try with_reducible rfl))
              try simp only [Act.put, List.setIfInBounds_toArray, List.set_cons_zero, List.set_cons_succ]
              refine wpAnyH_ready (rs := [7]) (by kernel_rfl) (by simp) ?_
              refine AllReadyH.cons rfl (fun K' hK' => ?_) AllReadyH.nil
              go_simp
              refine hK'.out _ _ (hs.below ((Below.refl _ _).alloc (Nat.le_refl _) _) hs.lt) (fun hs => ?_)
              clear hK' K'
              try simp only [Act.put, List.setIfInBounds_toArray, List.set_cons_zero, List.set_cons_succ]
              have D := D.alloc D.size (.cells #[.int .i64 (h (1 - j))] 2)
              refine wpAnyH_ready (rs := [8]) (by kernel_rfl) (by simp) ?_
              refine AllReadyH.cons rfl (fun K' hK' => ?_) AllReadyH.nil
              refine step_app1 rfl _ _ 34 rfl W0.heap.size 2 i0 Tryz.underlying34 hi0 hz0 hz1 hz2 ov ot.length (ot.map (.int .i64)) rfl (E1.below D).o _ 1 (h (1 - j)) rfl (by simp [go_sem]) (by omega) (Nat.le_trans zY2 D.size) ?_
              intro g' c' w3 hown hgrow hnew
              obtain ⟨E2, V4, F4⟩ := E1.other1 (by omega) D hown hgrow hnew
              have nB : ov.ownBlock ≠ some P := fun e => by have := own_ne hi.o P e; omega
              refine hK'.out _ _ (hs.fr (M := fun q => ov.ownBlock = some q) (.of_grown hgrow (fun q e => e)) nB) (fun hs => ?_)
              clear hK' K'
              try simp only [Act.put, List.setIfInBounds_toArray, List.set_cons_zero, List.set_cons_succ]
              have k1 := V4.cell 2
              have k3 := V4.frozen 2
              simp at k1
              refine wpAnyH_ready (rs := [9]) (by kernel_rfl) (by simp) ?_
              refine AllReadyH.cons rfl (fun K' hK' => ?_) AllReadyH.nil
              go_simp
              refine hK'.out _ _ hs (fun hs => ?_)
              clear hK' K'
              try simp only [Act.put, List.setIfInBounds_toArray, List.set_cons_zero, List.set_cons_succ]
              refine wpAnyH_ready (rs := [10]) (by kernel_rfl) (by simp) ?_
              refine AllReadyH.cons rfl (fun K' hK' => ?_) AllReadyH.nil
              go_simp
              refine hK'.out _ _ (hs.fr (M := fun q => q = V) (by refine Fr.setCell (Fr.refl _ _) _ _ ?_; rfl) (show P ≠ V by omega)) (fun hs => ?_)
              clear hK' K'
              try simp only [Act.put, List.setIfInBounds_toArray, List.set_cons_zero, List.set_cons_succ]
              refine wpAnyH_done (by kernel_rfl) ?_ _
              have FC : Fr (fun q => q = V ∨ sv.ownBlock = some q ∨ ov.ownBlock = some q) X _ := ((Fr.of_below DXY (Nat.le_refl _)).trans F3 (fun i _ e => e.elim .inl (fun e => .inr (.inl e)))).trans F4 (fun i _ e => e.elim .inl (fun e => .inr (.inr e)))
              exact FIN _ _ _ E2 FC
            · go_simp
              refine (OS _).mono ?_
              rintro _ z ⟨rfl, hz⟩
              subst hz
              refine hK'.out _ _ hs (fun hs => ?_)
              clear hK' K'
              try simp only [Act.put, List.setIfInBounds_toArray, List.set_cons_zero, List.set_cons_succ]
              refine take_at (i := 6) (d := some 49) (v := ?mv15) rfl rfl (by kernel_rfl) (by kernel_rfl) (by kernel_rfl) (fun _ _ _ h => h) (Or.inl ⟨by rfl, ?my15⟩) hs ?mg15
              case my15 => (intro z hSz; (have e0 := hSz.cell 0; have e1 := hSz.cell 1; simp at e0 e1); go_simp; (try with_reducible rfl))
              try simp only [Act.put, List.setIfInBounds_toArray, List.set_cons_zero, List.set_cons_succ]
              refine wpAnyH_ready (rs := [1, 7]) (by kernel_rfl) (by simp) ?_
              refine AllReadyH.cons rfl (fun K' hK' => ?_) (AllReadyH.cons rfl (fun K' hK' => ?_) AllReadyH.nil)
              · have v1 := (E1.below D).v.cell 2
                simp at v1
                go_simp
                refine hK'.out _ _ hs (fun hs => ?_)
                clear hK' K'
                try simp only [Act.put, List.setIfInBounds_toArray, List.set_cons_zero, List.set_cons_succ]
                clear v1
                refine wpAnyH_ready (rs := [7]) (by kernel_rfl) (by simp) ?_
                refine AllReadyH.cons rfl (fun K' hK' => ?_) AllReadyH.nil
                go_simp
                refine hK'.out _ _ (hs.below ((Below.refl _ _).alloc (Nat.le_refl _) _) hs.lt) (fun hs => ?_)
                clear hK' K'
                try simp only [Act.put, List.setIfInBounds_toArray, List.set_cons_zero, List.set_cons_succ]
                have D := D.alloc D.size (.cells #[.int .i64 (h (1 - j))] 2)
                refine wpAnyH_ready (rs := [8]) (by kernel_rfl) (by simp) ?_
                refine AllReadyH.cons rfl (fun K' hK' => ?_) AllReadyH.nil
                refine step_app1 rfl _ _ 34 rfl W0.heap.size 2 i0 Tryz.underlying34 hi0 hz0 hz1 hz2 ov ot.length (ot.map (.int .i64)) rfl (E1.below D).o _ 1 (h (1 - j)) rfl (by simp [go_sem]) (by omega) (Nat.le_trans zY2 D.size) ?_
                intro g' c' w3 hown hgrow hnew
                obtain ⟨E2, V4, F4⟩ := E1.other1 (by omega) D hown hgrow hnew
                have nB : ov.ownBlock ≠ some P := fun e => by have := own_ne hi.o P e; omega
                refine hK'.out _ _ (hs.fr (M := fun q => ov.ownBlock = some q) (.of_grown hgrow (fun q e => e)) nB) (fun hs => ?_)
                clear hK' K'
                try simp only [Act.put, List.setIfInBounds_toArray, List.set_cons_zero, List.set_cons_succ]
                have k1 := V4.cell 2
                have k3 := V4.frozen 2
                simp at k1
                refine wpAnyH_ready (rs := [9]) (by kernel_rfl) (by simp) ?_
                refine AllReadyH.cons rfl (fun K' hK' => ?_) AllReadyH.nil
                go_simp
                refine hK'.out _ _ hs (fun hs => ?_)
                clear hK' K'
                try simp only [Act.put, List.setIfInBounds_toArray, List.set_cons_zero, List.set_cons_succ]
                refine wpAnyH_ready (rs := [10]) (by kernel_rfl) (by simp) ?_
                refine AllReadyH.cons rfl (fun K' hK' => ?_) AllReadyH.nil
                go_simp
                refine hK'.out _ _ (hs.fr (M := fun q => q = V) (by refine Fr.setCell (Fr.refl _ _) _ _ ?_; rfl) (show P ≠ V by omega)) (fun hs => ?_)
                clear hK' K'
                try simp only [Act.put, List.setIfInBounds_toArray, List.set_cons_zero, List.set_cons_succ]
                refine wpAnyH_done (by kernel_rfl) ?_ _
                have FC : Fr (fun q => q = V ∨ sv.ownBlock = some q ∨ ov.ownBlock = some q) X _ := ((Fr.of_below DXY (Nat.le_refl _)).trans F3 (fun i _ e => e.elim .inl (fun e => .inr (.inl e)))).trans F4 (fun i _ e => e.elim .inl (fun e => .inr (.inr e)))
                exact FIN _ _ _ E2 FC
              · go_simp
                refine hK'.out _ _ (hs.below ((Below.refl _ _).alloc (Nat.le_refl _) _) hs.lt) (fun hs => ?_)
                clear hK' K'
                try simp only [Act.put, List.setIfInBounds_toArray, List.set_cons_zero, List.set_cons_succ]
                have D := D.alloc D.size (.cells #[.int .i64 (h (1 - j))] 2)
                refine wpAnyH_ready (rs := [1]) (by kernel_rfl) (by simp) ?_
                refine AllReadyH.cons rfl (fun K' hK' => ?_) AllReadyH.nil
                have v1 := (E1.below D).v.cell 2
                simp at v1
                go_simp
                refine hK'.out _ _ hs (fun hs => ?_)
                clear hK' K'
                try simp only [Act.put, List.setIfInBounds_toArray, List.set_cons_zero, List.set_cons_succ]
                clear v1
                refine wpAnyH_ready (rs := [8]) (by kernel_rfl) (by simp) ?_
                refine AllReadyH.cons rfl (fun K' hK' => ?_) AllReadyH.nil
                refine step_app1 rfl _ _ 34 rfl W0.heap.size 2 i0 Tryz.underlying34 hi0 hz0 hz1 hz2 ov ot.length (ot.map (.int .i64)) rfl (E1.below D).o _ 1 (h (1 - j)) rfl (by simp [go_sem]) (by omega) (Nat.le_trans zY2 D.size) ?_
                intro g' c' w3 hown hgrow hnew
                obtain ⟨E2, V4, F4⟩ := E1.other1 (by omega) D hown hgrow hnew
                have nB : ov.ownBlock ≠ some P := fun e => by have := own_ne hi.o P e; omega
                refine hK'.out _ _ (hs.fr (M := fun q => ov.ownBlock = some q) (.of_grown hgrow (fun q e => e)) nB) (fun hs => ?_)
                clear hK' K'
                try simp only [Act.put, List.setIfInBounds_toArray, List.set_cons_zero, List.set_cons_succ]
                have k1 := V4.cell 2
                have k3 := V4.frozen 2
                simp at k1
                refine wpAnyH_ready (rs := [9]) (by kernel_rfl) (by simp) ?_
                refine AllReadyH.cons rfl (fun K' hK' => ?_) AllReadyH.nil
                go_simp
                refine hK'.out _ _ hs (fun hs => ?_)
                clear hK' K'
                try simp only [Act.put, List.setIfInBounds_toArray, List.set_cons_zero, List.set_cons_succ]
                refine wpAnyH_ready (rs := [10]) (by kernel_rfl) (by simp) ?_
                refine AllReadyH.cons rfl (fun K' hK' => ?_) AllReadyH.nil
                go_simp
                refine hK'.out _ _ (hs.fr (M := fun q => q = V) (by refine Fr.setCell (Fr.refl _ _) _ _ ?_; rfl) (show P ≠ V by omega)) (fun hs => ?_)
                clear hK' K'
                try simp only [Act.put, List.setIfInBounds_toArray, List.set_cons_zero, List.set_cons_succ]
                refine wpAnyH_done (by kernel_rfl) ?_ _
                have FC : Fr (fun q => q = V ∨ sv.ownBlock = some q ∨ ov.ownBlock = some q) X _ := ((Fr.of_below DXY (Nat.le_refl _)).trans F3 (fun i _ e => e.elim .inl (fun e => .inr (.inl e)))).trans F4 (fun i _ e => e.elim .inl (fun e => .inr (.inr e)))
                exact FIN _ _ _ E2 FC
        · go_simp
          refine hK'.out _ _ (hs.below ((Below.refl _ _).alloc (Nat.le_refl _) _) hs.lt) (fun hs => ?_)
          clear hK' K'
          try simp only [Act.put, List.setIfInBounds_toArray, List.set_cons_zero, List.set_cons_succ]
          have D := D.alloc D.size (.cells #[.int .i64 (g j)] 2)
          refine wpAnyH_ready (rs := [1]) (by kernel_rfl) (by simp) ?_
          refine AllReadyH.cons rfl (fun K' hK' => ?_) AllReadyH.nil
          have v1 := (HY.below D).v.cell 1
          simp at v1
          go_simp
          refine hK'.out _ _ hs (fun hs => ?_)
          clear hK' K'
          try simp only [Act.put, List.setIfInBounds_toArray, List.set_cons_zero, List.set_cons_succ]
          clear v1
          refine wpAnyH_ready (rs := [6]) (by kernel_rfl) (by simp) ?_
          refine AllReadyH.cons rfl (fun K' hK' => ?_) AllReadyH.nil
          refine step_app1 rfl _ _ 34 rfl W0.heap.size 2 i0 Tryz.underlying34 hi0 hz0 hz1 hz2 sv sh.length (sh.map (.int .i64)) rfl (HY.below D).s _ 1 (g j) rfl (by simp [go_sem]) (by omega) (Nat.le_trans zY D.size) ?_
          intro g' c' w3 hown hgrow hnew
          obtain ⟨E1, V3, F3⟩ := HY.show1 (by omega) D hown hgrow hnew
          have nB : sv.ownBlock ≠ some P := fun e => by have := own_ne hi.s P e; omega
          refine hK'.out _ _ (hs.fr (M := fun q => sv.ownBlock = some q) (.of_grown hgrow (fun q e => e)) nB) (fun hs => ?_)
          clear hK' K'
          try simp only [Act.put, List.setIfInBounds_toArray, List.set_cons_zero, List.set_cons_succ]
          have k1 := V3.cell 1
          have k3 := V3.frozen 1
          simp at k1
          refine wpAnyH_ready (rs := [7]) (by kernel_rfl) (by simp) ?_
          refine AllReadyH.cons rfl (fun K' hK' => ?_) AllReadyH.nil
          go_simp
          refine hK'.out _ _ hs (fun hs => ?_)
          clear hK' K'
          try simp only [Act.put, List.setIfInBounds_toArray, List.set_cons_zero, List.set_cons_succ]
          refine wpAnyH_ready (rs := [8]) (by kernel_rfl) (by simp) ?_
          refine AllReadyH.cons rfl (fun K' hK' => ?_) AllReadyH.nil
          go_simp
          refine hK'.out _ _ (hs.fr (M := fun q => q = V) (by refine Fr.setCell (Fr.refl _ _) _ _ ?_; rfl) (show P ≠ V by omega)) (fun hs => ?_)
          clear hK' K'
          try simp only [Act.put, List.setIfInBounds_toArray, List.set_cons_zero, List.set_cons_succ]
          refine wpAnyH_done (by kernel_rfl) ?_ _
          obtain ⟨Y2, hY2⟩ : ∃ Z, Z = w3.setCell ⟨V, 1, none⟩ (Value.slice (some ⟨g', 0, none⟩) (sh.length + 1) c') := ⟨_, rfl⟩
          rw [← hY2] at E1 F3 hs
          have PB3 := hs
          clear hs k1 k3 V3 hown hgrow hnew D PB
          gi_wp2_with fail
          simp only [← hY2]
          clear hY2
          have zY2 : W0.heap.size ≤ Y2.heap.size := E1.fr.size
          have D : Below Y2.heap.size Y2 Y2.drew := (Below.refl _ _).drew
          refine wpIn_round_held (S := fun u => Blk u P #[.int .i64 (g 0), .int .i64 (g 1)] 120) (by kernel_rfl) (by kernel_rfl) (fun ⟨_, _, h⟩ => h) (PB3.below (Below.refl _ _).drew PB3.lt) (fun hs => ?_)
          obtain ⟨ZD, hZD⟩ := abs_w D
          rw [← hZD] at D hs
          simp only [← hZD]
          clear hZD
          refine take_at (i := 0) (d := some 43) (v := ?mv16) rfl rfl (by kernel_rfl) (by kernel_rfl) (by kernel_rfl) (fun _ _ _ h => h) (Or.inl ⟨by rfl, ?my16⟩) hs ?mg16
          case my16 => (intro z hSz; (have e0 := hSz.cell 0; have e1 := hSz.cell 1; simp at e0 e1); go_simp; (try with_reducible rfl))
          try simp only [Act.put, List.setIfInBounds_toArray, List.set_cons_zero, List.set_cons_succ]
          refine take_at (i := 2) (d := some 45) (v := ?mv17) rfl rfl (by kernel_rfl) (by kernel_rfl) (by kernel_rfl) (fun _ _ _ h => h) (Or.inl ⟨by rfl, ?my17⟩) hs ?mg17
          case my17 => (intro z hSz; (have e0 := hSz.cell 0; have e1 := hSz.cell 1; simp at e0 e1); go_simp; (try with_reducible rfl))
          try simp only [Act.put, List.setIfInBounds_toArray, List.set_cons_zero, List.set_cons_succ]
          refine take_at (i := 4) (d := some 47) (v := ?mv18) rfl rfl (by kernel_rfl) (by kernel_rfl) (by kernel_rfl) (fun _ _ _ h => h) (Or.inl ⟨by rfl, ?my18⟩) hs ?mg18
          case my18 => (intro z hSz; (have e0 := hSz.cell 0; have e1 := hSz.cell 1; simp at e0 e1); go_simp; (try with_reducible rfl))
          try simp only [Act.put, List.setIfInBounds_toArray, List.set_cons_zero, List.set_cons_succ]
          refine wpAnyH_ready (rs := [1, 3]) (by kernel_rfl) (by simp) ?_
          refine AllReadyH.cons rfl (fun K' hK' => ?_) (AllReadyH.cons rfl (fun K' hK' => ?_) AllReadyH.nil)
          · have v1 := (E1.below D).v.cell 2
            simp at v1
            go_simp
            refine hK'.out _ _ hs (fun hs => ?_)
            clear hK' K'
            try simp only [Act.put, List.setIfInBounds_toArray, List.set_cons_zero, List.set_cons_succ]
            clear v1
            refine wpAnyH_ready (rs := [3]) (by kernel_rfl) (by simp) ?_
            refine AllReadyH.cons rfl (fun K' hK' => ?_) AllReadyH.nil
            go_simp
            refine (PUB.out _ (E1.below D).fr).mono ?_
            rintro _ u4 ⟨rfl, hb4⟩
            have D1 := D.trans (hb4.mono D.size)
            refine hK'.out _ _ (hs.below hb4 hs.lt) (fun hs => ?_)
            clear hK' K'
            try simp only [Act.put, List.setIfInBounds_toArray, List.set_cons_zero, List.set_cons_succ]
            have D := D1
            refine wpAnyH_ready (rs := [5]) (by kernel_rfl) (by simp) ?_
            refine AllReadyH.cons rfl (fun K' hK' => ?_) AllReadyH.nil
            go_simp
            refine (OS _).mono ?_
            rintro _ z ⟨rfl, hz⟩
            subst hz
            refine hK'.out _ _ hs (fun hs => ?_)
            clear hK' K'
            try simp only [Act.put, List.setIfInBounds_toArray, List.set_cons_zero, List.set_cons_succ]
            refine take_at (i := 6) (d := some 49) (v := ?mv19) rfl rfl (by kernel_rfl) (by kernel_rfl) (by kernel_rfl) (fun _ _ _ h => h) (Or.inl ⟨by rfl, ?my19⟩) hs ?mg19
            case my19 => (intro z hSz; (have e0 := hSz.cell 0; have e1 := hSz.cell 1; simp at e0 e1); go_simp; (try with_reducible rfl))
            try simp only [Act.put, List.setIfInBounds_toArray, List.set_cons_zero, List.set_cons_succ]
            refine wpAnyH_ready (rs := [7]) (by kernel_rfl) (by simp) ?_
            refine AllReadyH.cons rfl (fun K' hK' => ?_) AllReadyH.nil
            go_simp
            refine hK'.out _ _ (hs.below ((Below.refl _ _).alloc (Nat.le_refl _) _) hs.lt) (fun hs => ?_)
            clear hK' K'
            try simp only [Act.put, List.setIfInBounds_toArray, List.set_cons_zero, List.set_cons_succ]
            have D := D.alloc D.size (.cells #[.int .i64 (h (1 - j))] 2)
            refine wpAnyH_ready (rs := [8]) (by kernel_rfl) (by simp) ?_
            refine AllReadyH.cons rfl (fun K' hK' => ?_) AllReadyH.nil
            refine step_app1 rfl _ _ 34 rfl W0.heap.size 2 i0 Tryz.underlying34 hi0 hz0 hz1 hz2 ov ot.length (ot.map (.int .i64)) rfl (E1.below D).o _ 1 (h (1 - j)) rfl (by simp [go_sem]) (by omega) (Nat.le_trans zY2 D.size) ?_
            intro g' c' w3 hown hgrow hnew
            obtain ⟨E2, V4, F4⟩ := E1.other1 (by omega) D hown hgrow hnew
            have nB : ov.ownBlock ≠ some P := fun e => by have := own_ne hi.o P e; omega
            refine hK'.out _ _ (hs.fr (M := fun q => ov.ownBlock = some q) (.of_grown hgrow (fun q e => e)) nB) (fun hs => ?_)
            clear hK' K'
            try simp only [Act.put, List.setIfInBounds_toArray, List.set_cons_zero, List.set_cons_succ]
            have k1 := V4.cell 2
            have k3 := V4.frozen 2
            simp at k1
            refine wpAnyH_ready (rs := [9]) (by kernel_rfl) (by simp) ?_
            refine AllReadyH.cons rfl (fun K' hK' => ?_) AllReadyH.nil
            go_simp
            refine hK'.out _ _ hs (fun hs => ?_)
            clear hK' K'
            try simp only [Act.put, List.setIfInBounds_toArray, List.set_cons_zero, List.set_cons_succ]
            refine wpAnyH_ready (rs := [10]) (by kernel_rfl) (by simp) ?_
            refine AllReadyH.cons rfl (fun K' hK' => ?_) AllReadyH.nil
            go_simp
            refine hK'.out _ _ (hs.fr (M := fun q => q = V) (by refine Fr.setCell (Fr.refl _ _) _ _ ?_; rfl) (show P ≠ V by omega)) (fun hs => ?_)
            clear hK' K'
            try simp only [Act.put, List.setIfInBounds_toArray, List.set_cons_zero, List.set_cons_succ]
            refine wpAnyH_done (by kernel_rfl) ?_ _
            have FC : Fr (fun q => q = V ∨ sv.ownBlock = some q ∨ ov.ownBlock = some q) X _ := ((Fr.of_below DXY (Nat.le_refl _)).trans F3 (fun i _ e => e.elim .inl (fun e => .inr (.inl e)))).trans F4 (fun i _ e => e.elim .inl (fun e => .inr (.inr e)))
            exact FIN _ _ _ E2 FC
          · go_simp
            refine (PUB.out _ (E1.below D).fr).mono ?_
            rintro _ u4 ⟨rfl, hb4⟩
            have D1 := D.trans (hb4.mono D.size)
            refine hK'.out _ _ (hs.below hb4 hs.lt) (fun hs => ?_)
            clear hK' K'
            try simp only [Act.put, List.setIfInBounds_toArray, List.set_cons_zero, List.set_cons_succ]
            have D := D1
            refine wpAnyH_ready (rs := [1, 5]) (by kernel_rfl) (by simp) ?_
            refine AllReadyH.cons rfl (fun K' hK' => ?_) (AllReadyH.cons rfl (fun K' hK' => ?_) AllReadyH.nil)
            · have v1 := (E1.below D).v.cell 2
              simp at v1
              go_simp
              refine hK'.out _ _ hs (fun hs => ?_)
              clear hK' K'
              try simp only [Act.put, List.setIfInBounds_toArray, List.set_cons_zero, List.set_cons_succ]
              clear v1
              refine wpAnyH_ready (rs := [5]) (by kernel_rfl) (by simp) ?_
              refine AllReadyH.cons rfl (fun K' hK' => ?_) AllReadyH.nil
              go_simp
              refine (OS _).mono ?_
              rintro _ z ⟨rfl, hz⟩
              subst hz
              refine hK'.out _ _ hs (fun hs => ?_)
              clear hK' K'
              try simp only [Act.put, List.setIfInBounds_toArray, List.set_cons_zero, List.set_cons_succ]
              refine take_at (i := 6) (d := some 49) (v := ?mv20) rfl rfl (by kernel_rfl) (by kernel_rfl) (by kernel_rfl) (fun _ _ _ h => h) (Or.inl ⟨by rfl, ?my20⟩) hs ?mg20
              case my20 => (intro z hSz; (have e0 := hSz.cell 0; have e1 := hSz.cell 1; simp at e0 e1); go_simp; (try with_reducible rfl))
              try simp only [Act.put, List.setIfInBounds_toArray, List.set_cons_zero, List.set_cons_succ]
              refine wpAnyH_ready (rs := [7]) (by kernel_rfl) (by simp) ?_
              refine AllReadyH.cons rfl (fun K' hK' => ?_) AllReadyH.nil
              go_simp
              refine hK'.out _ _ (hs.below ((Below.refl _ _).alloc (Nat.le_refl _) _) hs.lt) (fun hs => ?_)
              clear hK' K'
              try simp only [Act.put, List.setIfInBounds_toArray, List.set_cons_zero, List.set_cons_succ]
              have D := D.alloc D.size (.cells #[.int .i64 (h (1 - j))] 2)
              refine wpAnyH_ready (rs := [8]) (by kernel_rfl) (by simp) ?_
              refine AllReadyH.cons rfl (fun K' hK' => ?_) AllReadyH.nil
              refine step_app1 rfl _ _ 34 rfl W0.heap.size 2 i0 Tryz.underlying34 hi0 hz0 hz1 hz2 ov ot.length (ot.map (.int .i64)) rfl (E1.below D).o _ 1 (h (1 - j)) rfl (by simp [go_sem]) (by omega) (Nat.le_trans zY2 D.size) ?_
              intro g' c' w3 hown hgrow hnew
              obtain ⟨E2, V4, F4⟩ := E1.other1 (by omega) D hown hgrow hnew
              have nB : ov.ownBlock ≠ some P := fun e => by have := own_ne hi.o P e; omega
              refine hK'.out _ _ (hs.fr (M := fun q => ov.ownBlock = some q) (.of_grown hgrow (fun q e => e)) nB) (fun hs => ?_)
              clear hK' K'
              try simp only [Act.put, List.setIfInBounds_toArray, List.set_cons_zero, List.set_cons_succ]
              have k1 := V4.cell 2
              have k3 := V4.frozen 2
              simp at k1
              refine wpAnyH_ready (rs := [9]) (by kernel_rfl) (by simp) ?_
              refine AllReadyH.cons rfl (fun K' hK' => ?_) AllReadyH.nil
              go_simp
              refine hK'.out _ _ hs (fun hs => ?_)
              clear hK' K'
              try simp only [Act.put, List.setIfInBounds_toArray, List.set_cons_zero, List.set_cons_succ]
              refine wpAnyH_ready (rs := [10]) (by kernel_rfl) (by simp) ?_
              refine AllReadyH.cons rfl (fun K' hK' => ?_) AllReadyH.nil
              go_simp
              refine hK'.out _ _ (hs.fr (M := fun q => q = V) (by refine Fr.setCell (Fr.refl _ _) _ _ ?_; rfl) (show P ≠ V by omega)) (fun hs => ?_)
              clear hK' K'
              try simp only [Act.put, List.setIfInBounds_toArray, List.set_cons_zero, List.set_cons_succ]
              refine wpAnyH_done (by kernel_rfl) ?_ _
              have FC : Fr (fun q => q = V ∨ sv.ownBlock = some q ∨ ov.ownBlock = some q) X _ := ((Fr.of_below DXY (Nat.le_refl _)).trans F3 (fun i _ e => e.elim .inl (fun e => .inr (.inl e)))).trans F4 (fun i _ e => e.elim .inl (fun e => .inr (.inr e)))
              exact FIN _ _ _ E2 FC
            · go_simp
              refine (OS _).mono ?_
              rintro _ z ⟨rfl, hz⟩
              subst hz
              refine hK'.out _ _ hs (fun hs => ?_)
              clear hK' K'
              try simp only [Act.put, List.setIfInBounds_toArray, List.set_cons_zero, List.set_cons_succ]
              refine take_at (i := 6) (d := some 49) (v := ?mv21) rfl rfl (by kernel_rfl) (by kernel_rfl) (by kernel_rfl) (fun _ _ _ h => h) (Or.inl ⟨by rfl, ?my21⟩) hs ?mg21
              case my21 => (intro z hSz; (have e0 := hSz.cell 0; have e1 := hSz.cell 1; simp at e0 e1); go_simp; (try with_reducible rfl))
              try simp only [Act.put, List.setIfInBounds_toArray, List.set_cons_zero, List.set_cons_succ]
              refine wpAnyH_ready (rs := [1, 7]) (by kernel_rfl) (by simp) ?_
              refine AllReadyH.cons rfl (fun K' hK' => ?_) (AllReadyH.cons rfl (fun K' hK' => ?_) AllReadyH.nil)
              · have v1 := (E1.below D).v.cell 2
                simp at v1
                go_simp
                refine hK'.out _ _ hs (fun hs => ?_)
                clear hK' K'
                try simp only [Act.put, List.setIfInBounds_toArray, List.set_cons_zero, List.set_cons_succ]
                clear v1
                refine wpAnyH_ready (rs := [7]) (by kernel_rfl) (by simp) ?_
                refine AllReadyH.cons rfl (fun K' hK' => ?_) AllReadyH.nil
                go_simp
                refine hK'.out _ _ (hs.below ((Below.refl _ _).alloc (Nat.le_refl _) _) hs.lt) (fun hs => ?_)
                clear hK' K'
                try simp only [Act.put, List.setIfInBounds_toArray, List.set_cons_zero, List.set_cons_succ]
                have D := D.alloc D.size (.cells #[.int .i64 (h (1 - j))] 2)
                refine wpAnyH_ready (rs := [8]) (by kernel_rfl) (by simp) ?_
                refine AllReadyH.cons rfl (fun K' hK' => ?_) AllReadyH.nil
                refine step_app1 rfl _ _ 34 rfl W0.heap.size 2 i0 Tryz.underlying34 hi0 hz0 hz1 hz2 ov ot.length (ot.map (.int .i64)) rfl (E1.below D).o _ 1 (h (1 - j)) rfl (by simp [go_sem]) (by omega) (Nat.le_trans zY2 D.size) ?_
                intro g' c' w3 hown hgrow hnew
                obtain ⟨E2, V4, F4⟩ := E1.other1 (by omega) D hown hgrow hnew
                have nB : ov.ownBlock ≠ some P := fun e => by have := own_ne hi.o P e; omega
                refine hK'.out _ _ (hs.fr (M := fun q => ov.ownBlock = some q) (.of_grown hgrow (fun q e => e)) nB) (fun hs => ?_)
                clear hK' K'
                try simp only [Act.put, List.setIfInBounds_toArray, List.set_cons_zero, List.set_cons_succ]
                have k1 := V4.cell 2
                have k3 := V4.frozen 2
                simp at k1
                refine wpAnyH_ready (rs := [9]) (by kernel_rfl) (by simp) ?_
                refine AllReadyH.cons rfl (fun K' hK' => ?_) AllReadyH.nil
                go_simp
                refine hK'.out _ _ hs (fun hs => ?_)
                clear hK' K'
                try simp only [Act.put, List.setIfInBounds_toArray, List.set_cons_zero, List.set_cons_succ]
                refine wpAnyH_ready (rs := [10]) (by kernel_rfl) (by simp) ?_
                refine AllReadyH.cons rfl (fun K' hK' => ?_) AllReadyH.nil
                go_simp
                refine hK'.out _ _ (hs.fr (M := fun q => q = V) (by refine Fr.setCell (Fr.refl _ _) _ _ ?_; rfl) (show P ≠ V by omega)) (fun hs => ?_)
                clear hK' K'
                try simp only [Act.put, List.setIfInBounds_toArray, List.set_cons_zero, List.set_cons_succ]
                refine wpAnyH_done (by kernel_rfl) ?_ _
                have FC : Fr (fun q => q = V ∨ sv.ownBlock = some q ∨ ov.ownBlock = some q) X _ := ((Fr.of_below DXY (Nat.le_refl _)).trans F3 (fun i _ e => e.elim .inl (fun e => .inr (.inl e)))).trans F4 (fun i _ e => e.elim .inl (fun e => .inr (.inr e)))
                exact FIN _ _ _ E2 FC
              · go_simp
                refine hK'.out _ _ (hs.below ((Below.refl _ _).alloc (Nat.le_refl _) _) hs.lt) (fun hs => ?_)
                clear hK' K'
                try simp only [Act.put, List.setIfInBounds_toArray, List.set_cons_zero, List.set_cons_succ]
                have D := D.alloc D.size (.cells #[.int .i64 (h (1 - j))] 2)
                refine wpAnyH_ready (rs := [1]) (by kernel_rfl) (by simp) ?_
                refine AllReadyH.cons rfl (fun K' hK' => ?_) AllReadyH.nil
                have v1 := (E1.below D).v.cell 2
                simp at v1
                go_simp
                refine hK'.out _ _ hs (fun hs => ?_)
                clear hK' K'
                try simp only [Act.put, List.setIfInBounds_toArray, List.set_cons_zero, List.set_cons_succ]
                clear v1
                refine wpAnyH_ready (rs := [8]) (by kernel_rfl) (by simp) ?_
                refine AllReadyH.cons rfl (fun K' hK' => ?_) AllReadyH.nil
                refine step_app1 rfl _ _ 34 rfl W0.heap.size 2 i0 Tryz.underlying34 hi0 hz0 hz1 hz2 ov ot.length (ot.map (.int .i64)) rfl (E1.below D).o _ 1 (h (1 - j)) rfl (by simp [go_sem]) (by omega) (Nat.le_trans zY2 D.size) ?_
                intro g' c' w3 hown hgrow hnew
                obtain ⟨E2, V4, F4⟩ := E1.other1 (by omega) D hown hgrow hnew
                have nB : ov.ownBlock ≠ some P := fun e => by have := own_ne hi.o P e; omega
                refine hK'.out _ _ (hs.fr (M := fun q => ov.ownBlock = some q) (.of_grown hgrow (fun q e => e)) nB) (fun hs => ?_)
                clear hK' K'
                try simp only [Act.put, List.setIfInBounds_toArray, List.set_cons_zero, List.set_cons_succ]
                have k1 := V4.cell 2
                have k3 := V4.frozen 2
                simp at k1
                refine wpAnyH_ready (rs := [9]) (by kernel_rfl) (by simp) ?_
                refine AllReadyH.cons rfl (fun K' hK' => ?_) AllReadyH.nil
                go_simp
                refine hK'.out _ _ hs (fun hs => ?_)
                clear hK' K'
                try simp only [Act.put, List.setIfInBounds_toArray, List.set_cons_zero, List.set_cons_succ]
                refine wpAnyH_ready (rs := [10]) (by kernel_rfl) (by simp) ?_
                refine AllReadyH.cons rfl (fun K' hK' => ?_) AllReadyH.nil
                go_simp
                refine hK'.out _ _ (hs.fr (M := fun q => q = V) (by refine Fr.setCell (Fr.refl _ _) _ _ ?_; rfl) (show P ≠ V by omega)) (fun hs => ?_)
                clear hK' K'
                try simp only [Act.put, List.setIfInBounds_toArray, List.set_cons_zero, List.set_cons_succ]
                refine wpAnyH_done (by kernel_rfl) ?_ _
                have FC : Fr (fun q => q = V ∨ sv.ownBlock = some q ∨ ov.ownBlock = some q) X _ := ((Fr.of_below DXY (Nat.le_refl _)).trans F3 (fun i _ e => e.elim .inl (fun e => .inr (.inl e)))).trans F4 (fun i _ e => e.elim .inl (fun e => .inr (.inr e)))
                exact FIN _ _ _ E2 FC
      · have nP := D.size
        go_simp
        refine hK'.out _ _ ⟨hs.1.below ((Below.refl _ _).alloc (Nat.le_refl _) _) hs.1.lt, hs.2.1.below ((Below.refl _ _).alloc (Nat.le_refl _) _) hs.2.1.lt, hs.2.2.below ((Below.refl _ _).alloc (Nat.le_refl _) _) hs.2.2.lt⟩ (fun hs => ?_)
        clear hK' K'
        try simp only [Act.put, List.setIfInBounds_toArray, List.set_cons_zero, List.set_cons_succ]
        have D := D.alloc D.size (.cells #[.int .i64 0, .int .i64 0] 120)
        have PB := blk_al D
        obtain ⟨A6, h6⟩ := abs_w D
        rw [← h6] at D PB hs
        simp only [← h6]
        clear h6
        obtain ⟨P, hP⟩ := abs_b PB
        rw [← hP] at PB nP
        simp only [← hP]
        clear hP
        refine wpAnyH_ready (rs := [6]) (by kernel_rfl) (by simp) ?_
        refine AllReadyH.cons rfl (fun K' hK' => ?_) AllReadyH.nil
        go_simp
        refine (SD _).mono ?_
        rintro _ z ⟨rfl, hz⟩
        subst hz
        refine hK'.out _ _ hs (fun hs => ?_)
        clear hK' K'
        try simp only [Act.put, List.setIfInBounds_toArray, List.set_cons_zero, List.set_cons_succ]
        refine wpAnyH_ready (rs := [8]) (by kernel_rfl) (by simp) ?_
        refine AllReadyH.cons rfl (fun K' hK' => ?_) AllReadyH.nil
        have c0 := PB.cell 0
        have c1 := PB.cell 1
        have c2 := PB.frozen 0
        have c3 := PB.frozen 1
        simp at c0 c1
        obtain ⟨D2, PB2, F2⟩ := set_two (x := .int .i64 (g 0)) (y := .int .i64 (g 1)) D PB nP
        go_simp
        refine hK'.out _ _ ⟨hs.1.fr F2 (fun e => absurd e (Nat.ne_of_lt (Nat.lt_of_lt_of_le SX.lt nP))), hs.2.1.fr F2 (fun e => absurd e (Nat.ne_of_lt (Nat.lt_of_lt_of_le IX.lt nP))), hs.2.2.fr F2 (fun e => absurd e (Nat.ne_of_lt (Nat.lt_of_lt_of_le XX.lt nP)))⟩ (fun hs => ?_)
        clear hK' K'
        try simp only [Act.put, List.setIfInBounds_toArray, List.set_cons_zero, List.set_cons_succ]
        refine wpAnyH_ready (rs := [9]) (by kernel_rfl) (by simp) ?_
        refine AllReadyH.cons rfl (fun K' hK' => ?_) AllReadyH.nil
        go_simp
        refine hK'.out _ _ hs (fun hs => ?_)
        clear hK' K'
        try simp only [Act.put, List.setIfInBounds_toArray, List.set_cons_zero, List.set_cons_succ]
        refine wpAnyH_done (by kernel_rfl) ?_ _
        have D := D2
        have PB := PB2
        obtain ⟨Y, hY⟩ := abs_w D
        rw [← hY] at D PB
        clear D2 PB2 F2 c0 c1 c2 c3 hs SO SD SX IX XX
        gi_wp2_with fail
        simp only [← hY]
        clear hY
        have DXY := D
        clear D
        have HY := hi.below DXY
        have zY : W0.heap.size ≤ Y.heap.size := HY.fr.size
        have D : Below Y.heap.size Y Y.drew := (Below.refl _ _).drew
        refine wpIn_round_held (S := fun u => Blk u P #[.int .i64 (g 0), .int .i64 (g 1)] 120) (by kernel_rfl) (by kernel_rfl) (fun ⟨_, _, h⟩ => h) (PB.below (Below.refl _ _).drew PB.lt) (fun hs => ?_)
        obtain ⟨YD, hYD⟩ := abs_w D
        rw [← hYD] at D hs
        simp only [← hYD]
        clear hYD
        refine take_at (i := 0) (d := some 35) (v := ?mv22) rfl rfl (by kernel_rfl) (by kernel_rfl) (by kernel_rfl) (fun _ _ _ h => h) (Or.inl ⟨by rfl, ?my22⟩) hs ?mg22
        case my22 => (intro z hSz; (have e0 := cell_j (g := g) hSz hj2); go_simp; (try with_reducible rfl))
        try simp only [Act.put, List.setIfInBounds_toArray, List.set_cons_zero, List.set_cons_succ]
        refine take_at (i := 2) (d := some 37) (v := ?mv23) rfl rfl (by kernel_rfl) (by kernel_rfl) (by kernel_rfl) (fun _ _ _ h => h) (Or.inl ⟨by rfl, ?my23⟩) hs ?mg23
        case my23 => (intro z hSz; (have e0 := cell_j (g := g) hSz hj2); go_simp; (try with_reducible rfl))
        try simp only [Act.put, List.setIfInBounds_toArray, List.set_cons_zero, List.set_cons_succ]
        refine take_at (i := 3) (d := some 38) (v := ?mv24) rfl rfl (by kernel_rfl) (by kernel_rfl) (by kernel_rfl) (fun _ _ _ h => h) (Or.inl ⟨by rfl, ?my24⟩) hs ?mg24
        case my24 => (intro z hSz; (have e0 := cell_j (g := g) hSz hj2); go_simp; (try with_reducible rfl))
        try simp only [Act.put, List.setIfInBounds_toArray, List.set_cons_zero, List.set_cons_succ]
        refine take_at (i := 4) (d := some 39) (v := ?mv25) rfl rfl (by kernel_rfl) (by kernel_rfl) (by kernel_rfl) (fun _ _ _ h => h) (Or.inl ⟨by rfl, ?my25⟩) hs ?mg25
        case my25 => (intro z hSz; (have e0 := cell_j (g := g) hSz hj2); go_simp; (try with_reducible rfl))
        try simp only [Act.put, List.setIfInBounds_toArray, List.set_cons_zero, List.set_cons_succ]
        refine wpAnyH_ready (rs := [1, 5]) (by kernel_rfl) (by simp) ?_
        refine AllReadyH.cons rfl (fun K' hK' => ?_) (AllReadyH.cons rfl (fun K' hK' => ?_) AllReadyH.nil)
        · have v1 := (HY.below D).v.cell 1
          simp at v1
          go_simp
          refine hK'.out _ _ hs (fun hs => ?_)
          clear hK' K'
          try simp only [Act.put, List.setIfInBounds_toArray, List.set_cons_zero, List.set_cons_succ]
          clear v1
          refine wpAnyH_ready (rs := [5]) (by kernel_rfl) (by simp) ?_
          refine AllReadyH.cons rfl (fun K' hK' => ?_) AllReadyH.nil
          go_simp
          refine hK'.out _ _ (hs.below ((Below.refl _ _).alloc (Nat.le_refl _) _) hs.lt) (fun hs => ?_)
          clear hK' K'
          try simp only [Act.put, List.setIfInBounds_toArray, List.set_cons_zero, List.set_cons_succ]
          have D := D.alloc D.size (.cells #[.int .i64 (g j)] 2)
          refine wpAnyH_ready (rs := [6]) (by kernel_rfl) (by simp) ?_
          refine AllReadyH.cons rfl (fun K' hK' => ?_) AllReadyH.nil
          refine step_app1 rfl _ _ 34 rfl W0.heap.size 2 i0 Tryz.underlying34 hi0 hz0 hz1 hz2 sv sh.length (sh.map (.int .i64)) rfl (HY.below D).s _ 1 (g j) rfl (by simp [go_sem]) (by omega) (Nat.le_trans zY D.size) ?_
          intro g' c' w3 hown hgrow hnew
          obtain ⟨E1, V3, F3⟩ := HY.show1 (by omega) D hown hgrow hnew
          have nB : sv.ownBlock ≠ some P := fun e => by have := own_ne hi.s P e; omega
          refine hK'.out _ _ (hs.fr (M := fun q => sv.ownBlock = some q) (.of_grown hgrow (fun q e => e)) nB) (fun hs => ?_)
          clear hK' K'
          try simp only [Act.put, List.setIfInBounds_toArray, List.set_cons_zero, List.set_cons_succ]
          have k1 := V3.cell 1
          have k3 := V3.frozen 1
          simp at k1
          refine wpAnyH_ready (rs := [7]) (by kernel_rfl) (by simp) ?_
          refine AllReadyH.cons rfl (fun K' hK' => ?_) AllReadyH.nil
          go_simp
          refine hK'.out _ _ hs (fun hs => ?_)
          clear hK' K'
          try simp only [Act.put, List.setIfInBounds_toArray, List.set_cons_zero, List.set_cons_succ]
          refine wpAnyH_ready (rs := [8]) (by kernel_rfl) (by simp) ?_
          refine AllReadyH.cons rfl (fun K' hK' => ?_) AllReadyH.nil
          go_simp
          refine hK'.out _ _ (hs.fr (M := fun q => q = V) (by refine Fr.setCell (Fr.refl _ _) _ _ ?_; rfl) (show P ≠ V by omega)) (fun hs => ?_)
          clear hK' K'
          try simp only [Act.put, List.setIfInBounds_toArray, List.set_cons_zero, List.set_cons_succ]
          refine wpAnyH_done (by kernel_rfl) ?_ _
          obtain ⟨Y2, hY2⟩ : ∃ Z, Z = w3.setCell ⟨V, 1, none⟩ (Value.slice (some ⟨g', 0, none⟩) (sh.length + 1) c') := ⟨_, rfl⟩
          rw [← hY2] at E1 F3 hs
          have PB3 := hs
          clear hs k1 k3 V3 hown hgrow hnew D PB
          gi_wp2_with fail
          simp only [← hY2]
          clear hY2
          have zY2 : W0.heap.size ≤ Y2.heap.size := E1.fr.size
          have D : Below Y2.heap.size Y2 Y2.drew := (Below.refl _ _).drew
          refine wpIn_round_held (S := fun u => Blk u P #[.int .i64 (g 0), .int .i64 (g 1)] 120) (by kernel_rfl) (by kernel_rfl) (fun ⟨_, _, h⟩ => h) (PB3.below (Below.refl _ _).drew PB3.lt) (fun hs => ?_)
          obtain ⟨ZD, hZD⟩ := abs_w D
          rw [← hZD] at D hs
          simp only [← hZD]
          clear hZD
          refine take_at (i := 0) (d := some 43) (v := ?mv26) rfl rfl (by kernel_rfl) (by kernel_rfl) (by kernel_rfl) (fun _ _ _ h => h) (Or.inl ⟨by rfl, ?my26⟩) hs ?mg26
          case my26 => (intro z hSz; (have e0 := hSz.cell 0; have e1 := hSz.cell 1; simp at e0 e1); go_simp; (try with_reducible rfl))
          try simp only [Act.put, List.setIfInBounds_toArray, List.set_cons_zero, List.set_cons_succ]
          refine take_at (i := 2) (d := some 45) (v := ?mv27) rfl rfl (by kernel_rfl) (by kernel_rfl) (by kernel_rfl) (fun _ _ _ h => h) (Or.inl ⟨by rfl, ?my27⟩) hs ?mg27
          case my27 => (intro z hSz; (have e0 := hSz.cell 0; have e1 := hSz.cell 1; simp at e0 e1); go_simp; (try with_reducible rfl))
          try simp only [Act.put, List.setIfInBounds_toArray, List.set_cons_zero, List.set_cons_succ]
          refine take_at (i := 4) (d := some 47) (v := ?mv28) rfl rfl (by kernel_rfl) (by kernel_rfl) (by kernel_rfl) (fun _ _ _ h => h) (Or.inl ⟨by rfl, ?my28⟩) hs ?mg28
          case my28 => (intro z hSz; (have e0 := hSz.cell 0; have e1 := hSz.cell 1; simp at e0 e1); go_simp; (try with_reducible rfl))
          try simp only [Act.put, List.setIfInBounds_toArray, List.set_cons_zero, List.set_cons_succ]
          refine wpAnyH_ready (rs := [1, 3]) (by kernel_rfl) (by simp) ?_
          refine AllReadyH.cons rfl (fun K' hK' => ?_) (AllReadyH.cons rfl (fun K' hK' => ?_) AllReadyH.nil)
          · have v1 := (E1.below D).v.cell 2
            simp at v1
            go_simp
            refine hK'.out _ _ hs (fun hs => ?_)
            clear hK' K'
            try simp only [Act.put, List.setIfInBounds_toArray, List.set_cons_zero, List.set_cons_succ]
            clear v1
            refine wpAnyH_ready (rs := [3]) (by kernel_rfl) (by simp) ?_
            refine AllReadyH.cons rfl (fun K' hK' => ?_) AllReadyH.nil
            go_simp
            refine (PUB.out _ (E1.below D).fr).mono ?_
            rintro _ u4 ⟨rfl, hb4⟩
            have D1 := D.trans (hb4.mono D.size)
            refine hK'.out _ _ (hs.below hb4 hs.lt) (fun hs => ?_)
            clear hK' K'
            try simp only [Act.put, List.setIfInBounds_toArray, List.set_cons_zero, List.set_cons_succ]
            have D := D1
            refine wpAnyH_ready (rs := [5]) (by kernel_rfl) (by simp) ?_
            refine AllReadyH.cons rfl (fun K' hK' => ?_) AllReadyH.nil
            go_simp
            refine (OS _).mono ?_
            rintro _ z ⟨rfl, hz⟩
            subst hz
            refine hK'.out _ _ hs (fun hs => ?_)
            clear hK' K'
            try simp only [Act.put, List.setIfInBounds_toArray, List.set_cons_zero, List.set_cons_succ]
            refine take_at (i := 6) (d := some 49) (v := ?mv29) rfl rfl (by kernel_rfl) (by kernel_rfl) (by kernel_rfl) (fun _ _ _ h => h) (Or.inl ⟨by rfl, ?my29⟩) hs ?mg29
            case my29 => (intro z hSz; (have e0 := hSz.cell 0; have e1 := hSz.cell 1; simp at e0 e1); go_simp; (try with_reducible rfl))
            try simp only [Act.put, List.setIfInBounds_toArray, List.set_cons_zero, List.set_cons_succ]
            refine wpAnyH_ready (rs := [7]) (by kernel_rfl) (by simp) ?_
            refine AllReadyH.cons rfl (fun K' hK' => ?_) AllReadyH.nil
            go_simp
            refine hK'.out _ _ (hs.below ((Below.refl _ _).alloc (Nat.le_refl _) _) hs.lt) (fun hs => ?_)
            clear hK' K'
            try simp only [Act.put, List.setIfInBounds_toArray, List.set_cons_zero, List.set_cons_succ]
            have D := D.alloc D.size (.cells #[.int .i64 (h (1 - j))] 2)
            refine wpAnyH_ready (rs := [8]) (by kernel_rfl) (by simp) ?_
            refine AllReadyH.cons rfl (fun K' hK' => ?_) AllReadyH.nil
            refine step_app1 rfl _ _ 34 rfl W0.heap.size 2 i0 Tryz.underlying34 hi0 hz0 hz1 hz2 ov ot.length (ot.map (.int .i64)) rfl (E1.below D).o _ 1 (h (1 - j)) rfl (by simp [go_sem]) (by omega) (Nat.le_trans zY2 D.size) ?_
            intro g' c' w3 hown hgrow hnew
            obtain ⟨E2, V4, F4⟩ := E1.other1 (by omega) D hown hgrow hnew
            have nB : ov.ownBlock ≠ some P := fun e => by have := own_ne hi.o P e; omega
            refine hK'.out _ _ (hs.fr (M := fun q => ov.ownBlock = some q) (.of_grown hgrow (fun q e => e)) nB) (fun hs => ?_)
            clear hK' K'
            try simp only [Act.put, List.setIfInBounds_toArray, List.set_cons_zero, List.set_cons_succ]
            have k1 := V4.cell 2
            have k3 := V4.frozen 2
            simp at k1
            refine wpAnyH_ready (rs := [9]) (by kernel_rfl) (by simp) ?_
            refine AllReadyH.cons rfl (fun K' hK' => ?_) AllReadyH.nil
            go_simp
            refine hK'.out _ _ hs (fun hs => ?_)
            clear hK' K'
            try simp only [Act.put, List.setIfInBounds_toArray, List.set_cons_zero, List.set_cons_succ]
            refine wpAnyH_ready (rs := [10]) (by kernel_rfl) (by simp) ?_
            refine AllReadyH.cons rfl (fun K' hK' => ?_) AllReadyH.nil
            go_simp
            refine hK'.out _ _ (hs.fr (M := fun q => q = V) (by refine Fr.setCell (Fr.refl _ _) _ _ ?_; rfl) (show P ≠ V by omega)) (fun hs => ?_)
            clear hK' K'
            try simp only [Act.put, List.setIfInBounds_toArray, List.set_cons_zero, List.set_cons_succ]
            refine wpAnyH_done (by kernel_rfl) ?_ _
            have FC : Fr (fun q => q = V ∨ sv.ownBlock = some q ∨ ov.ownBlock = some q) X _ := ((Fr.of_below DXY (Nat.le_refl _)).trans F3 (fun i _ e => e.elim .inl (fun e => .inr (.inl e)))).trans F4 (fun i _ e => e.elim .inl (fun e => .inr (.inr e)))
            exact FIN _ _ _ E2 FC
          · go_simp
            refine (PUB.out _ (E1.below D).fr).mono ?_
            rintro _ u4 ⟨rfl, hb4⟩
            have D1 := D.trans (hb4.mono D.size)
            refine hK'.out _ _ (hs.below hb4 hs.lt) (fun hs => ?_)
            clear hK' K'
            try simp only [Act.put, List.setIfInBounds_toArray, List.set_cons_zero, List.set_cons_succ]
            have D := D1
            refine wpAnyH_ready (rs := [1, 5]) (by kernel_rfl) (by simp) ?_
            refine AllReadyH.cons rfl (fun K' hK' => ?_) (AllReadyH.cons rfl (fun K' hK' => ?_) AllReadyH.nil)
            · have v1 := (E1.below D).v.cell 2
              simp at v1
              go_simp
              refine hK'.out _ _ hs (fun hs => ?_)
              clear hK' K'
              try simp only [Act.put, List.setIfInBounds_toArray, List.set_cons_zero, List.set_cons_succ]
              clear v1
              refine wpAnyH_ready (rs := [5]) (by kernel_rfl) (by simp) ?_
              refine AllReadyH.cons rfl (fun K' hK' => ?_) AllReadyH.nil
              go_simp
              refine (OS _).mono ?_
              rintro _ z ⟨rfl, hz⟩
              subst hz
              refine hK'.out _ _ hs (fun hs => ?_)
              clear hK' K'
              try simp only [Act.put, List.setIfInBounds_toArray, List.set_cons_zero, List.set_cons_succ]
              refine take_at (i := 6) (d := some 49) (v := ?mv30) rfl rfl (by kernel_rfl) (by kernel_rfl) (by kernel_rfl) (fun _ _ _ h => h) (Or.inl ⟨by rfl, ?my30⟩) hs ?mg30
              case my30 => (intro z hSz; (have e0 := hSz.cell 0; have e1 := hSz.cell 1; simp at e0 e1); go_simp; (try with_reducible rfl))
              try simp only [Act.put, List.setIfInBounds_toArray, List.set_cons_zero, List.set_cons_succ]
              refine wpAnyH_ready (rs := [7]) (by kernel_rfl) (by simp) ?_
              refine AllReadyH.cons rfl (fun K' hK' => ?_) AllReadyH.nil
              go_simp
              refine hK'.out _ _ (hs.below ((Below.refl _ _).alloc (Nat.le_refl _) _) hs.lt) (fun hs => ?_)
              clear hK' K'
              try simp only [Act.put, List.setIfInBounds_toArray, List.set_cons_zero, List.set_cons_succ]
              have D := D.alloc D.size (.cells #[.int .i64 (h (1 - j))] 2)
              refine wpAnyH_ready (rs := [8]) (by kernel_rfl) (by simp) ?_
              refine AllReadyH.cons rfl (fun K' hK' => ?_) AllReadyH.nil
              refine step_app1 rfl _ _ 34 rfl W0.heap.size 2 i0 Tryz.underlying34 hi0 hz0 hz1 hz2 ov ot.length (ot.map (.int .i64)) rfl (E1.below D).o _ 1 (h (1 - j)) rfl (by simp [go_sem]) (by omega) (Nat.le_trans zY2 D.size) ?_
              intro g' c' w3 hown hgrow hnew
              obtain ⟨E2, V4, F4⟩ := E1.other1 (by omega) D hown hgrow hnew
              have nB : ov.ownBlock ≠ some P := fun e => by have := own_ne hi.o P e; omega
              refine hK'.out _ _ (hs.fr (M := fun q => ov.ownBlock = some q) (.of_grown hgrow (fun q e => e)) nB) (fun hs => ?_)
              clear hK' K'
              try simp only [Act.put, List.setIfInBounds_toArray, List.set_cons_zero, List.set_cons_succ]
              have k1 := V4.cell 2
              have k3 := V4.frozen 2
              simp at k1
              refine wpAnyH_ready (rs := [9]) (by kernel_rfl) (by simp) ?_
              refine AllReadyH.cons rfl (fun K' hK' => ?_) AllReadyH.nil
              go_simp
              refine hK'.out _ _ hs (fun hs => ?_)
              clear hK' K'
              try simp only [Act.put, List.setIfInBounds_toArray, List.set_cons_zero, List.set_cons_succ]
              refine wpAnyH_ready (rs := [10]) (by kernel_rfl) (by simp) ?_
              refine AllReadyH.cons rfl (fun K' hK' => ?_) AllReadyH.nil
              go_simp
              refine hK'.out _ _ (hs.fr (M := fun q => q = V) (by refine Fr.setCell (Fr.refl _ _) _ _ ?_; rfl) (show P ≠ V by omega)) (fun hs => ?_)
              clear hK' K'
              try simp only [Act.put, List.setIfInBounds_toArray, List.set_cons_zero, List.set_cons_succ]
              refine wpAnyH_done (by kernel_rfl) ?_ _
              have FC : Fr (fun q => q = V ∨ sv.ownBlock = some q ∨ ov.ownBlock = some q) X _ := ((Fr.of_below DXY (Nat.le_refl _)).trans F3 (fun i _ e => e.elim .inl (fun e => .inr (.inl e)))).trans F4 (fun i _ e => e.elim .inl (fun e => .inr (.inr e)))
              exact FIN _ _ _ E2 FC
            · go_simp
              refine (OS _).mono ?_
              rintro _ z ⟨rfl, hz⟩
              subst hz
              refine hK'.out _ _ hs (fun hs => ?_)
              clear hK' K'
              try simp only [Act.put, List.setIfInBounds_toArray, List.set_cons_zero, List.set_cons_succ]
              refine take_at (i := 6) (d := some 49) (v := ?mv31) rfl rfl (by kernel_rfl) (by kernel_rfl) (by kernel_rfl) (fun _ _ _ h => h) (Or.inl ⟨by rfl, ?my31⟩) hs ?mg31
              case my31 => (intro z hSz; (have e0 := hSz.cell 0; have e1 := hSz.cell 1; simp at e0 e1); go_simp; (try with_reducible rfl))
              try simp only [Act.put, List.setIfInBounds_toArray, List.set_cons_zero, List.set_cons_succ]
              refine wpAnyH_ready (rs := [1, 7]) (by kernel_rfl) (by simp) ?_
              refine AllReadyH.cons rfl (fun K' hK' => ?_) (AllReadyH.cons rfl (fun K' hK' => ?_) AllReadyH.nil)
              · have v1 := (E1.below D).v.cell 2
                simp at v1
                go_simp
                refine hK'.out _ _ hs (fun hs => ?_)
                clear hK' K'
                try simp only [Act.put, List.setIfInBounds_toArray, List.set_cons_zero, List.set_cons_succ]
                clear v1
                refine wpAnyH_ready (rs := [7]) (by kernel_rfl) (by simp) ?_
                refine AllReadyH.cons rfl (fun K' hK' => ?_) AllReadyH.nil
                go_simp
                refine hK'.out _ _ (hs.below ((Below.refl _ _).alloc (Nat.le_refl _) _) hs.lt) (fun hs => ?_)
                clear hK' K'
                try simp only [Act.put, List.setIfInBounds_toArray, List.set_cons_zero, List.set_cons_succ]
                have D := D.alloc D.size (.cells #[.int .i64 (h (1 - j))] 2)
                refine wpAnyH_ready (rs := [8]) (by kernel_rfl) (by simp) ?_
                refine AllReadyH.cons rfl (fun K' hK' => ?_) AllReadyH.nil
                refine step_app1 rfl _ _ 34 rfl W0.heap.size 2 i0 Tryz.underlying34 hi0 hz0 hz1 hz2 ov ot.length (ot.map (.int .i64)) rfl (E1.below D).o _ 1 (h (1 - j)) rfl (by simp [go_sem]) (by omega) (Nat.le_trans zY2 D.size) ?_
                intro g' c' w3 hown hgrow hnew
                obtain ⟨E2, V4, F4⟩ := E1.other1 (by omega) D hown hgrow hnew
                have nB : ov.ownBlock ≠ some P := fun e => by have := own_ne hi.o P e; omega
                refine hK'.out _ _ (hs.fr (M := fun q => ov.ownBlock = some q) (.of_grown hgrow (fun q e => e)) nB) (fun hs => ?_)
                clear hK' K'
                try simp only [Act.put, List.setIfInBounds_toArray, List.set_cons_zero, List.set_cons_succ]
                have k1 := V4.cell 2
                have k3 := V4.frozen 2
                simp at k1
                refine wpAnyH_ready (rs := [9]) (by kernel_rfl) (by simp) ?_
                refine AllReadyH.cons rfl (fun K' hK' => ?_) AllReadyH.nil
                go_simp
                refine hK'.out _ _ hs (fun hs => ?_)
                clear hK' K'
                try simp only [Act.put, List.setIfInBounds_toArray, List.set_cons_zero, List.set_cons_succ]
                refine wpAnyH_ready (rs := [10]) (by kernel_rfl) (by simp) ?_
                refine AllReadyH.cons rfl (fun K' hK' => ?_) AllReadyH.nil
                go_simp
                refine hK'.out _ _ (hs.fr (M := fun q => q = V) (by refine Fr.setCell (Fr.refl _ _) _ _ ?_; rfl) (show P ≠ V by omega)) (fun hs => ?_)
                clear hK' K'
                try simp only [Act.put, List.setIfInBounds_toArray, List.set_cons_zero, List.set_cons_succ]
                refine wpAnyH_done (by kernel_rfl) ?_ _
                have FC : Fr (fun q => q = V ∨ sv.ownBlock = some q ∨ ov.ownBlock = some q) X _ := ((Fr.of_below DXY (Nat.le_refl _)).trans F3 (fun i _ e => e.elim .inl (fun e => .inr (.inl e)))).trans F4 (fun i _ e => e.elim .inl (fun e => .inr (.inr e)))
                exact FIN _ _ _ E2 FC
              · go_simp
                refine hK'.out _ _ (hs.below ((Below.refl _ _).alloc (Nat.le_refl _) _) hs.lt) (fun hs => ?_)
                clear hK' K'
                try simp only [Act.put, List.setIfInBounds_toArray, List.set_cons_zero, List.set_cons_succ]
                have D := D.alloc D.size (.cells #[.int .i64 (h (1 - j))] 2)
                refine wpAnyH_ready (rs := [1]) (by kernel_rfl) (by simp) ?_
                refine AllReadyH.cons rfl (fun K' hK' => ?_) AllReadyH.nil
                have v1 := (E1.below D).v.cell 2
                simp at v1
                go_simp
                refine hK'.out _ _ hs (fun hs => ?_)
                clear hK' K'
                try simp only [Act.put, List.setIfInBounds_toArray, List.set_cons_zero, List.set_cons_succ]
                clear v1
                refine wpAnyH_ready (rs := [8]) (by kernel_rfl) (by simp) ?_
                refine AllReadyH.cons rfl (fun K' hK' => ?_) AllReadyH.nil
                refine step_app1 rfl _ _ 34 rfl W0.heap.size 2 i0 Tryz.underlying34 hi0 hz0 hz1 hz2 ov ot.length (ot.map (.int .i64)) rfl (E1.below D).o _ 1 (h (1 - j)) rfl (by simp [go_sem]) (by omega) (Nat.le_trans zY2 D.size) ?_
                intro g' c' w3 hown hgrow hnew
                obtain ⟨E2, V4, F4⟩ := E1.other1 (by omega) D hown hgrow hnew
                have nB : ov.ownBlock ≠ some P := fun e => by have := own_ne hi.o P e; omega
                refine hK'.out _ _ (hs.fr (M := fun q => ov.ownBlock = some q) (.of_grown hgrow (fun q e => e)) nB) (fun hs => ?_)
                clear hK' K'
                try simp only [Act.put, List.setIfInBounds_toArray, List.set_cons_zero, List.set_cons_succ]
                have k1 := V4.cell 2
                have k3 := V4.frozen 2
                simp at k1
                refine wpAnyH_ready (rs := [9]) (by kernel_rfl) (by simp) ?_
                refine AllReadyH.cons rfl (fun K' hK' => ?_) AllReadyH.nil
                go_simp
                refine hK'.out _ _ hs (fun hs => ?_)
                clear hK' K'
                try simp only [Act.put, List.setIfInBounds_toArray, List.set_cons_zero, List.set_cons_succ]
                refine wpAnyH_ready (rs := [10]) (by kernel_rfl) (by simp) ?_
                refine AllReadyH.cons rfl (fun K' hK' => ?_) AllReadyH.nil
                go_simp
                refine hK'.out _ _ (hs.fr (M := fun q => q = V) (by refine Fr.setCell (Fr.refl _ _) _ _ ?_; rfl) (show P ≠ V by omega)) (fun hs => ?_)
                clear hK' K'
                try simp only [Act.put, List.setIfInBounds_toArray, List.set_cons_zero, List.set_cons_succ]
                refine wpAnyH_done (by kernel_rfl) ?_ _
                have FC : Fr (fun q => q = V ∨ sv.ownBlock = some q ∨ ov.ownBlock = some q) X _ := ((Fr.of_below DXY (Nat.le_refl _)).trans F3 (fun i _ e => e.elim .inl (fun e => .inr (.inl e)))).trans F4 (fun i _ e => e.elim .inl (fun e => .inr (.inr e)))
                exact FIN _ _ _ E2 FC
        · go_simp
          refine hK'.out _ _ (hs.below ((Below.refl _ _).alloc (Nat.le_refl _) _) hs.lt) (fun hs => ?_)
          clear hK' K'
          try simp only [Act.put, List.setIfInBounds_toArray, List.set_cons_zero, List.set_cons_succ]
          have D := D.alloc D.size (.cells #[.int .i64 (g j)] 2)
          refine wpAnyH_ready (rs := [1]) (by kernel_rfl) (by simp) ?_
          refine AllReadyH.cons rfl (fun K' hK' => ?_) AllReadyH.nil
          have v1 := (HY.below D).v.cell 1
          simp at v1
          go_simp
          refine hK'.out _ _ hs (fun hs => ?_)
          clear hK' K'
          try simp only [Act.put, List.setIfInBounds_toArray, List.set_cons_zero, List.set_cons_succ]
          clear v1
          refine wpAnyH_ready (rs := [6]) (by kernel_rfl) (by simp) ?_
          refine AllReadyH.cons rfl (fun K' hK' => ?_) AllReadyH.nil
          refine step_app1 rfl _ _ 34 rfl W0.heap.size 2 i0 Tryz.underlying34 hi0 hz0 hz1 hz2 sv sh.length (sh.map (.int .i64)) rfl (HY.below D).s _ 1 (g j) rfl (by simp [go_sem]) (by omega) (Nat.le_trans zY D.size) ?_
          intro g' c' w3 hown hgrow hnew
          obtain ⟨E1, V3, F3⟩ := HY.show1 (by omega) D hown hgrow hnew
          have nB : sv.ownBlock ≠ some P := fun e => by have := own_ne hi.s P e; omega
          refine hK'.out _ _ (hs.fr (M := fun q => sv.ownBlock = some q) (.of_grown hgrow (fun q e => e)) nB) (fun hs => ?_)
          clear hK' K'
          try simp only [Act.put, List.setIfInBounds_toArray, List.set_cons_zero, List.set_cons_succ]
          have k1 := V3.cell 1
          have k3 := V3.frozen 1
          simp at k1
          refine wpAnyH_ready (rs := [7]) (by kernel_rfl) (by simp) ?_
          refine AllReadyH.cons rfl (fun K' hK' => ?_) AllReadyH.nil
          go_simp
          refine hK'.out _ _ hs (fun hs => ?_)
          clear hK' K'
          try simp only [Act.put, List.setIfInBounds_toArray, List.set_cons_zero, List.set_cons_succ]
          refine wpAnyH_ready (rs := [8]) (by kernel_rfl) (by simp) ?_
          refine AllReadyH.cons rfl (fun K' hK' => ?_) AllReadyH.nil
          go_simp
          refine hK'.out _ _ (hs.fr (M := fun q => q = V) (by refine Fr.setCell (Fr.refl _ _) _ _ ?_; rfl) (show P ≠ V by omega)) (fun hs => ?_)
          clear hK' K'
          try simp only [Act.put, List.setIfInBounds_toArray, List.set_cons_zero, List.set_cons_succ]
          refine wpAnyH_done (by kernel_rfl) ?_ _
          obtain ⟨Y2, hY2⟩ : ∃ Z, Z = w3.setCell ⟨V, 1, none⟩ (Value.slice (some ⟨g', 0, none⟩) (sh.length + 1) c') := ⟨_, rfl⟩
          rw [← hY2] at E1 F3 hs
          have PB3 := hs
          clear hs k1 k3 V3 hown hgrow hnew D PB
          gi_wp2_with fail
          simp only [← hY2]
          clear hY2
          have zY2 : W0.heap.size ≤ Y2.heap.size := E1.fr.size
          have D : Below Y2.heap.size Y2 Y2.drew := (Below.refl _ _).drew
          refine wpIn_round_held (S := fun u => Blk u P #[.int .i64 (g 0), .int .i64 (g 1)] 120) (by kernel_rfl) (by kernel_rfl) (fun ⟨_, _, h⟩ => h) (PB3.below (Below.refl _ _).drew PB3.lt) (fun hs => ?_)
          obtain ⟨ZD, hZD⟩ := abs_w D
          rw [← hZD] at D hs
          simp only [← hZD]
          clear hZD
          refine take_at (i := 0) (d := some 43) (v := ?mv32) rfl rfl (by kernel_rfl) (by kernel_rfl) (by kernel_rfl) (fun _ _ _ h => h) (Or.inl ⟨by rfl, ?my32⟩) hs ?mg32
          case my32 => (intro z hSz; (have e0 := hSz.cell 0; have e1 := hSz.cell 1; simp at e0 e1); go_simp; (try with_reducible rfl))
          try simp only [Act.put, List.setIfInBounds_toArray, List.set_cons_zero, List.set_cons_succ]
          refine take_at (i := 2) (d := some 45) (v := ?mv33) rfl rfl (by kernel_rfl) (by kernel_rfl) (by kernel_rfl) (fun _ _ _ h => h) (Or.inl ⟨by rfl, ?my33⟩) hs ?mg33
          case my33 => (intro z hSz; (have e0 := hSz.cell 0; have e1 := hSz.cell 1; simp at e0 e1); go_simp; (try with_reducible rfl))
          try simp only [Act.put, List.setIfInBounds_toArray, List.set_cons_zero, List.set_cons_succ]
          refine take_at (i := 4) (d := some 47) (v := ?mv34) rfl rfl (by kernel_rfl) (by kernel_rfl) (by kernel_rfl) (fun _ _ _ h => h) (Or.inl ⟨by rfl, ?my34⟩) hs ?mg34
          case my34 => (intro z hSz; (have e0 := hSz.cell 0; have e1 := hSz.cell 1; simp at e0 e1); go_simp; (try with_reducible rfl))
          try simp only [Act.put, List.setIfInBounds_toArray, List.set_cons_zero, List.set_cons_succ]
          refine wpAnyH_ready (rs := [1, 3]) (by kernel_rfl) (by simp) ?_
          refine AllReadyH.cons rfl (fun K' hK' => ?_) (AllReadyH.cons rfl (fun K' hK' => ?_) AllReadyH.nil)
          · have v1 := (E1.below D).v.cell 2
            simp at v1
            go_simp
            refine hK'.out _ _ hs (fun hs => ?_)
            clear hK' K'
            try simp only [Act.put, List.setIfInBounds_toArray, List.set_cons_zero, List.set_cons_succ]
            clear v1
            refine wpAnyH_ready (rs := [3]) (by kernel_rfl) (by simp) ?_
            refine AllReadyH.cons rfl (fun K' hK' => ?_) AllReadyH.nil
            go_simp
            refine (PUB.out _ (E1.below D).fr).mono ?_
            rintro _ u4 ⟨rfl, hb4⟩
            have D1 := D.trans (hb4.mono D.size)
            refine hK'.out _ _ (hs.below hb4 hs.lt) (fun hs => ?_)
            clear hK' K'
            try simp only [Act.put, List.setIfInBounds_toArray, List.set_cons_zero, List.set_cons_succ]
            have D := D1
            refine wpAnyH_ready (rs := [5]) (by kernel_rfl) (by simp) ?_
            refine AllReadyH.cons rfl (fun K' hK' => ?_) AllReadyH.nil
            go_simp
            refine (OS _).mono ?_
            rintro _ z ⟨rfl, hz⟩
            subst hz
            refine hK'.out _ _ hs (fun hs => ?_)
            clear hK' K'
            try simp only [Act.put, List.setIfInBounds_toArray, List.set_cons_zero, List.set_cons_succ]
            refine take_at (i := 6) (d := some 49) (v := ?mv35) rfl rfl (by kernel_rfl) (by kernel_rfl) (by kernel_rfl) (fun _ _ _ h => h) (Or.inl ⟨by rfl, ?my35⟩) hs ?mg35
            case my35 => (intro z hSz; (have e0 := hSz.cell 0; have e1 := hSz.cell 1; simp at e0 e1); go_simp; (try with_reducible rfl))
            try simp only [Act.put, List.setIfInBounds_toArray, List.set_cons_zero, List.set_cons_succ]
            refine wpAnyH_ready (rs := [7]) (by kernel_rfl) (by simp) ?_
            refine AllReadyH.cons rfl (fun K' hK' => ?_) AllReadyH.nil
            go_simp
            refine hK'.out _ _ (hs.below ((Below.refl _ _).alloc (Nat.le_refl _) _) hs.lt) (fun hs => ?_)
            clear hK' K'
            try simp only [Act.put, List.setIfInBounds_toArray, List.set_cons_zero, List.set_cons_succ]
            have D := D.alloc D.size (.cells #[.int .i64 (h (1 - j))] 2)
            refine wpAnyH_ready (rs := [8]) (by kernel_rfl) (by simp) ?_
            refine AllReadyH.cons rfl (fun K' hK' => ?_) AllReadyH.nil
            refine step_app1 rfl _ _ 34 rfl W0.heap.size 2 i0 Tryz.underlying34 hi0 hz0 hz1 hz2 ov ot.length (ot.map (.int .i64)) rfl (E1.below D).o _ 1 (h (1 - j)) rfl (by simp [go_sem]) (by omega) (Nat.le_trans zY2 D.size) ?_
            intro g' c' w3 hown hgrow hnew
            obtain ⟨E2, V4, F4⟩ := E1.other1 (by omega) D hown hgrow hnew
            have nB : ov.ownBlock ≠ some P := fun e => by have := own_ne hi.o P e; omega
            refine hK'.out _ _ (hs.fr (M := fun q => ov.ownBlock = some q) (.of_grown hgrow (fun q e => e)) nB) (fun hs => ?_)
            clear hK' K'
            try simp only [Act.put, List.setIfInBounds_toArray, List.set_cons_zero, List.set_cons_succ]
            have k1 := V4.cell 2
            have k3 := V4.frozen 2
            simp at k1
            refine wpAnyH_ready (rs := [9]) (by kernel_rfl) (by simp) ?_
            refine AllReadyH.cons rfl (fun K' hK' => ?_) AllReadyH.nil
            go_simp
            refine hK'.out _ _ hs (fun hs => ?_)
            clear hK' K'
            try simp only [Act.put, List.setIfInBounds_toArray, List.set_cons_zero, List.set_cons_succ]
            refine wpAnyH_ready (rs := [10]) (by kernel_rfl) (by simp) ?_
            refine AllReadyH.cons rfl (fun K' hK' => ?_) AllReadyH.nil
            go_simp
            refine hK'.out _ _ (hs.fr (M := fun q => q = V) (by refine Fr.setCell (Fr.refl _ _) _ _ ?_; rfl) (show P ≠ V by omega)) (fun hs => ?_)
            clear hK' K'
            try simp only [Act.put, List.setIfInBounds_toArray, List.set_cons_zero, List.set_cons_succ]
            refine wpAnyH_done (by kernel_rfl) ?_ _
            have FC : Fr (fun q => q = V ∨ sv.ownBlock = some q ∨ ov.ownBlock = some q) X _ := ((Fr.of_below DXY (Nat.le_refl _)).trans F3 (fun i _ e => e.elim .inl (fun e => .inr (.inl e)))).trans F4 (fun i _ e => e.elim .inl (fun e => .inr (.inr e)))
            exact FIN _ _ _ E2 FC
          · go_simp
            refine (PUB.out _ (E1.below D).fr).mono ?_
            rintro _ u4 ⟨rfl, hb4⟩
            have D1 := D.trans (hb4.mono D.size)
            refine hK'.out _ _ (hs.below hb4 hs.lt) (fun hs => ?_)
            clear hK' K'
            try simp only [Act.put, List.setIfInBounds_toArray, List.set_cons_zero, List.set_cons_succ]
            have D := D1
            refine wpAnyH_ready (rs := [1, 5]) (by kernel_rfl) (by simp) ?_
            refine AllReadyH.cons rfl (fun K' hK' => ?_) (AllReadyH.cons rfl (fun K' hK' => ?_) AllReadyH.nil)
            · have v1 := (E1.below D).v.cell 2
              simp at v1
              go_simp
              refine hK'.out _ _ hs (fun hs => ?_)
              clear hK' K'
              try simp only [Act.put, List.setIfInBounds_toArray, List.set_cons_zero, List.set_cons_succ]
              clear v1
              refine wpAnyH_ready (rs := [5]) (by kernel_rfl) (by simp) ?_
              refine AllReadyH.cons rfl (fun K' hK' => ?_) AllReadyH.nil
              go_simp
              refine (OS _).mono ?_
              rintro _ z ⟨rfl, hz⟩
              subst hz
              refine hK'.out _ _ hs (fun hs => ?_)
              clear hK' K'
              try simp only [Act.put, List.setIfInBounds_toArray, List.set_cons_zero, List.set_cons_succ]
              refine take_at (i := 6) (d := some 49) (v := ?mv36) rfl rfl (by kernel_rfl) (by kernel_rfl) (by kernel_rfl) (fun _ _ _ h => h) (Or.inl ⟨by rfl, ?my36⟩) hs ?mg36
              case my36 => (intro z hSz; (have e0 := hSz.cell 0; have e1 := hSz.cell 1; simp at e0 e1); go_simp; (try with_reducible rfl))
              try simp only [Act.put, List.setIfInBounds_toArray, List.set_cons_zero, List.set_cons_succ]
              refine wpAnyH_ready (rs := [7]) (by kernel_rfl) (by simp) ?_
              refine AllReadyH.cons rfl (fun K' hK' => ?_) AllReadyH.nil
              go_simp
              refine hK'.out _ _ (hs.below ((Below.refl _ _).alloc (Nat.le_refl _) _) hs.lt) (fun hs => ?_)
              clear hK' K'
              try simp only [Act.put, List.setIfInBounds_toArray, List.set_cons_zero, List.set_cons_succ]
              have D := D.alloc D.size (.cells #[.int .i64 (h (1 - j))] 2)
              refine wpAnyH_ready (rs := [8]) (by kernel_rfl) (by simp) ?_
              refine AllReadyH.cons rfl (fun K' hK' => ?_) AllReadyH.nil
              refine step_app1 rfl _ _ 34 rfl W0.heap.size 2 i0 Tryz.underlying34 hi0 hz0 hz1 hz2 ov ot.length (ot.map (.int .i64)) rfl (E1.below D).o _ 1 (h (1 - j)) rfl (by simp [go_sem]) (by omega) (Nat.le_trans zY2 D.size) ?_
              intro g' c' w3 hown hgrow hnew
              obtain ⟨E2, V4, F4⟩ := E1.other1 (by omega) D hown hgrow hnew
              have nB : ov.ownBlock ≠ some P := fun e => by have := own_ne hi.o P e; omega
              refine hK'.out _ _ (hs.fr (M := fun q => ov.ownBlock = some q) (.of_grown hgrow (fun q e => e)) nB) (fun hs => ?_)
              clear hK' K'
              try simp only [Act.put, List.setIfInBounds_toArray, List.set_cons_zero, List.set_cons_succ]
              have k1 := V4.cell 2
              have k3 := V4.frozen 2
              simp at k1
              refine wpAnyH_ready (rs := [9]) (by kernel_rfl) (by simp) ?_
              refine AllReadyH.cons rfl (fun K' hK' => ?_) AllReadyH.nil
              go_simp
              refine hK'.out _ _ hs (fun hs => ?_)
              clear hK' K'
              try simp only [Act.put, List.setIfInBounds_toArray, List.set_cons_zero, List.set_cons_succ]
              refine wpAnyH_ready (rs := [10]) (by kernel_rfl) (by simp) ?_
              refine AllReadyH.cons rfl (fun K' hK' => ?_) AllReadyH.nil
              go_simp
              refine hK'.out _ _ (hs.fr (M := fun q => q = V) (by refine Fr.setCell (Fr.refl _ _) _ _ ?_; rfl) (show P ≠ V by omega)) (fun hs => ?_)
              clear hK' K'
              try simp only [Act.put, List.setIfInBounds_toArray, List.set_cons_zero, List.set_cons_succ]
              refine wpAnyH_done (by kernel_rfl) ?_ _
              have FC : Fr (fun q => q = V ∨ sv.ownBlock = some q ∨ ov.ownBlock = some q) X _ := ((Fr.of_below DXY (Nat.le_refl _)).trans F3 (fun i _ e => e.elim .inl (fun e => .inr (.inl e)))).trans F4 (fun i _ e => e.elim .inl (fun e => .inr (.inr e)))
              exact FIN _ _ _ E2 FC
            · go_simp
              refine (OS _).mono ?_
              rintro _ z ⟨rfl, hz⟩
              subst hz
              refine hK'.out _ _ hs (fun hs => ?_)
              clear hK' K'
              try simp only [Act.put, List.setIfInBounds_toArray, List.set_cons_zero, List.set_cons_succ]
              refine take_at (i := 6) (d := some 49) (v := ?mv37) rfl rfl (by kernel_rfl) (by kernel_rfl) (by kernel_rfl) (fun _ _ _ h => h) (Or.inl ⟨by rfl, ?my37⟩) hs ?mg37
              case my37 => (intro z hSz; (have e0 := hSz.cell 0; have e1 := hSz.cell 1; simp at e0 e1); go_simp; (try with_reducible rfl))
              try simp only [Act.put, List.setIfInBounds_toArray, List.set_cons_zero, List.set_cons_succ]
              refine wpAnyH_ready (rs := [1, 7]) (by kernel_rfl) (by simp) ?_
              refine AllReadyH.cons rfl (fun K' hK' => ?_) (AllReadyH.cons rfl (fun K' hK' => ?_) AllReadyH.nil)
              · have v1 := (E1.below D).v.cell 2
                simp at v1
                go_simp
                refine hK'.out _ _ hs (fun hs => ?_)
                clear hK' K'
                try simp only [Act.put, List.setIfInBounds_toArray, List.set_cons_zero, List.set_cons_succ]
                clear v1
                refine wpAnyH_ready (rs := [7]) (by kernel_rfl) (by simp) ?_
                refine AllReadyH.cons rfl (fun K' hK' => ?_) AllReadyH.nil
                go_simp
                refine hK'.out _ _ (hs.below ((Below.refl _ _).alloc (Nat.le_refl _) _) hs.lt) (fun hs => ?_)
                clear hK' K'
                try simp only [Act.put, List.setIfInBounds_toArray, List.set_cons_zero, List.set_cons_succ]
                have D := D.alloc D.size (.cells #[.int .i64 (h (1 - j))] 2)
                refine wpAnyH_ready (rs := [8]) (by kernel_rfl) (by simp) ?_
                refine AllReadyH.cons rfl (fun K' hK' => ?_) AllReadyH.nil
                refine step_app1 rfl _ _ 34 rfl W0.heap.size 2 i0 Tryz.underlying34 hi0 hz0 hz1 hz2 ov ot.length (ot.map (.int .i64)) rfl (E1.below D).o _ 1 (h (1 - j)) rfl (by simp [go_sem]) (by omega) (Nat.le_trans zY2 D.size) ?_
                intro g' c' w3 hown hgrow hnew
                obtain ⟨E2, V4, F4⟩ := E1.other1 (by omega) D hown hgrow hnew
                have nB : ov.ownBlock ≠ some P := fun e => by have := own_ne hi.o P e; omega
                refine hK'.out _ _ (hs.fr (M := fun q => ov.ownBlock = some q) (.of_grown hgrow (fun q e => e)) nB) (fun hs => ?_)
                clear hK' K'
                try simp only [Act.put, List.setIfInBounds_toArray, List.set_cons_zero, List.set_cons_succ]
                have k1 := V4.cell 2
                have k3 := V4.frozen 2
                simp at k1
                refine wpAnyH_ready (rs := [9]) (by kernel_rfl) (by simp) ?_
                refine AllReadyH.cons rfl (fun K' hK' => ?_) AllReadyH.nil
                go_simp
                refine hK'.out _ _ hs (fun hs => ?_)
                clear hK' K'
                try simp only [Act.put, List.setIfInBounds_toArray, List.set_cons_zero, List.set_cons_succ]
                refine wpAnyH_ready (rs := [10]) (by kernel_rfl) (by simp) ?_
                refine AllReadyH.cons rfl (fun K' hK' => ?_) AllReadyH.nil
                go_simp
                refine hK'.out _ _ (hs.fr (M := fun q => q = V) (by refine Fr.setCell (Fr.refl _ _) _ _ ?_; rfl) (show P ≠ V by omega)) (fun hs => ?_)
                clear hK' K'
                try simp only [Act.put, List.setIfInBounds_toArray, List.set_cons_zero, List.set_cons_succ]
                refine wpAnyH_done (by kernel_rfl) ?_ _
                have FC : Fr (fun q => q = V ∨ sv.ownBlock = some q ∨ ov.ownBlock = some q) X _ := ((Fr.of_below DXY (Nat.le_refl _)).trans F3 (fun i _ e => e.elim .inl (fun e => .inr (.inl e)))).trans F4 (fun i _ e => e.elim .inl (fun e => .inr (.inr e)))
                exact FIN _ _ _ E2 FC
              · go_simp
                refine hK'.out _ _ (hs.below ((Below.refl _ _).alloc (Nat.le_refl _) _) hs.lt) (fun hs => ?_)
                clear hK' K'
                try simp only [Act.put, List.setIfInBounds_toArray, List.set_cons_zero, List.set_cons_succ]
                have D := D.alloc D.size (.cells #[.int .i64 (h (1 - j))] 2)
                refine wpAnyH_ready (rs := [1]) (by kernel_rfl) (by simp) ?_
                refine AllReadyH.cons rfl (fun K' hK' => ?_) AllReadyH.nil
                have v1 := (E1.below D).v.cell 2
                simp at v1
                go_simp
                refine hK'.out _ _ hs (fun hs => ?_)
                clear hK' K'
                try simp only [Act.put, List.setIfInBounds_toArray, List.set_cons_zero, List.set_cons_succ]
                clear v1
                refine wpAnyH_ready (rs := [8]) (by kernel_rfl) (by simp) ?_
                refine AllReadyH.cons rfl (fun K' hK' => ?_) AllReadyH.nil
                refine step_app1 rfl _ _ 34 rfl W0.heap.size 2 i0 Tryz.underlying34 hi0 hz0 hz1 hz2 ov ot.length (ot.map (.int .i64)) rfl (E1.below D).o _ 1 (h (1 - j)) rfl (by simp [go_sem]) (by omega) (Nat.le_trans zY2 D.size) ?_
                intro g' c' w3 hown hgrow hnew
                obtain ⟨E2, V4, F4⟩ := E1.other1 (by omega) D hown hgrow hnew
                have nB : ov.ownBlock ≠ some P := fun e => by have := own_ne hi.o P e; omega
                refine hK'.out _ _ (hs.fr (M := fun q => ov.ownBlock = some q) (.of_grown hgrow (fun q e => e)) nB) (fun hs => ?_)
                clear hK' K'
                try simp only [Act.put, List.setIfInBounds_toArray, List.set_cons_zero, List.set_cons_succ]
                have k1 := V4.cell 2
                have k3 := V4.frozen 2
                simp at k1
                refine wpAnyH_ready (rs := [9]) (by kernel_rfl) (by simp) ?_
                refine AllReadyH.cons rfl (fun K' hK' => ?_) AllReadyH.nil
                go_simp
                refine hK'.out _ _ hs (fun hs => ?_)
                clear hK' K'
                try simp only [Act.put, List.setIfInBounds_toArray, List.set_cons_zero, List.set_cons_succ]
                refine wpAnyH_ready (rs := [10]) (by kernel_rfl) (by simp) ?_
                refine AllReadyH.cons rfl (fun K' hK' => ?_) AllReadyH.nil
                go_simp
                refine hK'.out _ _ (hs.fr (M := fun q => q = V) (by refine Fr.setCell (Fr.refl _ _) _ _ ?_; rfl) (show P ≠ V by omega)) (fun hs => ?_)
                clear hK' K'
                try simp only [Act.put, List.setIfInBounds_toArray, List.set_cons_zero, List.set_cons_succ]
                refine wpAnyH_done (by kernel_rfl) ?_ _
                have FC : Fr (fun q => q = V ∨ sv.ownBlock = some q ∨ ov.ownBlock = some q) X _ := ((Fr.of_below DXY (Nat.le_refl _)).trans F3 (fun i _ e => e.elim .inl (fun e => .inr (.inl e)))).trans F4 (fun i _ e => e.elim .inl (fun e => .inr (.inr e)))
                exact FIN _ _ _ E2 FC
    · have nP := D.size
      go_simp
      refine hK'.out _ _ ⟨hs.1.below ((Below.refl _ _).alloc (Nat.le_refl _) _) hs.1.lt, hs.2.1.below ((Below.refl _ _).alloc (Nat.le_refl _) _) hs.2.1.lt, hs.2.2.below ((Below.refl _ _).alloc (Nat.le_refl _) _) hs.2.2.lt⟩ (fun hs => ?_)
      clear hK' K'
      try simp only [Act.put, List.setIfInBounds_toArray, List.set_cons_zero, List.set_cons_succ]
      have D := D.alloc D.size (.cells #[.int .i64 0, .int .i64 0] 120)
      have PB := blk_al D
      obtain ⟨A6, h6⟩ := abs_w D
      rw [← h6] at D PB hs
      simp only [← h6]
      clear h6
      obtain ⟨P, hP⟩ := abs_b PB
      rw [← hP] at PB nP
      simp only [← hP]
      clear hP
      refine wpAnyH_ready (rs := [3]) (by kernel_rfl) (by simp) ?_
      refine AllReadyH.cons rfl (fun K' hK' => ?_) AllReadyH.nil
      go_simp
      refine (SO.out _ D).mono ?_
      rintro _ u3 ⟨rfl, hb3⟩
      have D1 := D.trans (hb3.mono D.size)
      refine hK'.out _ _ ⟨hs.1.below hb3 hs.1.lt, hs.2.1.below hb3 hs.2.1.lt, hs.2.2.below hb3 hs.2.2.lt⟩ (fun hs => ?_)
      clear hK' K'
      try simp only [Act.put, List.setIfInBounds_toArray, List.set_cons_zero, List.set_cons_succ]
      have D := D1
      (try replace PB := PB.below hb3 PB.lt)
      refine wpAnyH_ready (rs := [6]) (by kernel_rfl) (by simp) ?_
      refine AllReadyH.cons rfl (fun K' hK' => ?_) AllReadyH.nil
      go_simp
      refine (SD _).mono ?_
      rintro _ z ⟨rfl, hz⟩
      subst hz
      refine hK'.out _ _ hs (fun hs => ?_)
      clear hK' K'
      try simp only [Act.put, List.setIfInBounds_toArray, List.set_cons_zero, List.set_cons_succ]
      refine wpAnyH_ready (rs := [8]) (by kernel_rfl) (by simp) ?_
      refine AllReadyH.cons rfl (fun K' hK' => ?_) AllReadyH.nil
      have c0 := PB.cell 0
      have c1 := PB.cell 1
      have c2 := PB.frozen 0
      have c3 := PB.frozen 1
      simp at c0 c1
      obtain ⟨D2, PB2, F2⟩ := set_two (x := .int .i64 (g 0)) (y := .int .i64 (g 1)) D PB nP
      go_simp
      refine hK'.out _ _ ⟨hs.1.fr F2 (fun e => absurd e (Nat.ne_of_lt (Nat.lt_of_lt_of_le SX.lt nP))), hs.2.1.fr F2 (fun e => absurd e (Nat.ne_of_lt (Nat.lt_of_lt_of_le IX.lt nP))), hs.2.2.fr F2 (fun e => absurd e (Nat.ne_of_lt (Nat.lt_of_lt_of_le XX.lt nP)))⟩ (fun hs => ?_)
      clear hK' K'
      try simp only [Act.put, List.setIfInBounds_toArray, List.set_cons_zero, List.set_cons_succ]
      refine wpAnyH_ready (rs := [9]) (by kernel_rfl) (by simp) ?_
      refine AllReadyH.cons rfl (fun K' hK' => ?_) AllReadyH.nil
      go_simp
      refine hK'.out _ _ hs (fun hs => ?_)
      clear hK' K'
      try simp only [Act.put, List.setIfInBounds_toArray, List.set_cons_zero, List.set_cons_succ]
      refine wpAnyH_done (by kernel_rfl) ?_ _
      have D := D2
      have PB := PB2
      obtain ⟨Y, hY⟩ := abs_w D
      rw [← hY] at D PB
      clear D2 PB2 F2 c0 c1 c2 c3 hs SO SD SX IX XX
      gi_wp2_with fail
      simp only [← hY]
      clear hY
      have DXY := D
      clear D
      have HY := hi.below DXY
      have zY : W0.heap.size ≤ Y.heap.size := HY.fr.size
      have D : Below Y.heap.size Y Y.drew := (Below.refl _ _).drew
      refine wpIn_round_held (S := fun u => Blk u P #[.int .i64 (g 0), .int .i64 (g 1)] 120) (by kernel_rfl) (by kernel_rfl) (fun ⟨_, _, h⟩ => h) (PB.below (Below.refl _ _).drew PB.lt) (fun hs => ?_)
      obtain ⟨YD, hYD⟩ := abs_w D
      rw [← hYD] at D hs
      simp only [← hYD]
      clear hYD
      refine take_at (i := 0) (d := some 35) (v := ?mv38) rfl rfl (by kernel_rfl) (by kernel_rfl) (by kernel_rfl) (fun _ _ _ h => h) (Or.inl ⟨by rfl, ?my38⟩) hs ?mg38
      case my38 => (intro z hSz; (have e0 := cell_j (g := g) hSz hj2); go_simp; (try with_reducible rfl))
      try simp only [Act.put, List.setIfInBounds_toArray, List.set_cons_zero, List.set_cons_succ]
      refine take_at (i := 2) (d := some 37) (v := ?mv39) rfl rfl (by kernel_rfl) (by kernel_rfl) (by kernel_rfl) (fun _ _ _ h => h) (Or.inl ⟨by rfl, ?my39⟩) hs ?mg39
      case my39 => (intro z hSz; (have e0 := cell_j (g := g) hSz hj2); go_simp; (try with_reducible rfl))
      try simp only [Act.put, List.setIfInBounds_toArray, List.set_cons_zero, List.set_cons_succ]
      refine take_at (i := 3) (d := some 38) (v := ?mv40) rfl rfl (by kernel_rfl) (by kernel_rfl) (by kernel_rfl) (fun _ _ _ h => h) (Or.inl ⟨by rfl, ?my40⟩) hs ?mg40
      case my40 => (intro z hSz; (have e0 := cell_j (g := g) hSz hj2); go_simp; (try with_reducible rfl))
      try simp only [Act.put, List.setIfInBounds_toArray, List.set_cons_zero, List.set_cons_succ]
      refine take_at (i := 4) (d := some 39) (v := ?mv41) rfl rfl (by kernel_rfl) (by kernel_rfl) (by kernel_rfl) (fun _ _ _ h => h) (Or.inl ⟨by rfl, ?my41⟩) hs ?mg41
      case my41 => (intro z hSz; (have e0 := cell_j (g := g) hSz hj2); go_simp; (try with_reducible rfl))
      try simp only [Act.put, List.setIfInBounds_toArray, List.set_cons_zero, List.set_cons_succ]
      refine wpAnyH_ready (rs := [1, 5]) (by kernel_rfl) (by simp) ?_
      refine AllReadyH.cons rfl (fun K' hK' => ?_) (AllReadyH.cons rfl (fun K' hK' => ?_) AllReadyH.nil)
      · have v1 := (HY.below D).v.cell 1
        simp at v1
        go_simp
        refine hK'.out _ _ hs (fun hs => ?_)
        clear hK' K'
        try simp only [Act.put, List.setIfInBounds_toArray, List.set_cons_zero, List.set_cons_succ]
        clear v1
        refine wpAnyH_ready (rs := [5]) (by kernel_rfl) (by simp) ?_
        refine AllReadyH.cons rfl (fun K' hK' => ?_) AllReadyH.nil
        go_simp
        refine hK'.out _ _ (hs.below ((Below.refl _ _).alloc (Nat.le_refl _) _) hs.lt) (fun hs => ?_)
        clear hK' K'
        try simp only [Act.put, List.setIfInBounds_toArray, List.set_cons_zero, List.set_cons_succ]
        have D := D.alloc D.size (.cells #[.int .i64 (g j)] 2)
        refine wpAnyH_ready (rs := [6]) (by kernel_rfl) (by simp) ?_
        refine AllReadyH.cons rfl (fun K' hK' => ?_) AllReadyH.nil
        refine step_app1 rfl _ _ 34 rfl W0.heap.size 2 i0 Tryz.underlying34 hi0 hz0 hz1 hz2 sv sh.length (sh.map (.int .i64)) rfl (HY.below D).s _ 1 (g j) rfl (by simp [go_sem]) (by omega) (Nat.le_trans zY D.size) ?_
        intro g' c' w3 hown hgrow hnew
        obtain ⟨E1, V3, F3⟩ := HY.show1 (by omega) D hown hgrow hnew
        have nB : sv.ownBlock ≠ some P := fun e => by have := own_ne hi.s P e; omega
        refine hK'.out _ _ (hs.fr (M := fun q => sv.ownBlock = some q) (.of_grown hgrow (fun q e => e)) nB) (fun hs => ?_)
        clear hK' K'
        try simp only [Act.put, List.setIfInBounds_toArray, List.set_cons_zero, List.set_cons_succ]
        have k1 := V3.cell 1
        have k3 := V3.frozen 1
        simp at k1
        refine wpAnyH_ready (rs := [7]) (by kernel_rfl) (by simp) ?_
        refine AllReadyH.cons rfl (fun K' hK' => ?_) AllReadyH.nil
        go_simp
        refine hK'.out _ _ hs (fun hs => ?_)
        clear hK' K'
        try simp only [Act.put, List.setIfInBounds_toArray, List.set_cons_zero, List.set_cons_succ]
        refine wpAnyH_ready (rs := [8]) (by kernel_rfl) (by simp) ?_
        refine AllReadyH.cons rfl (fun K' hK' => ?_) AllReadyH.nil
        go_simp
        refine hK'.out _ _ (hs.fr (M := fun q => q = V) (by refine Fr.setCell (Fr.refl _ _) _ _ ?_; rfl) (show P ≠ V by omega)) (fun hs => ?_)
        clear hK' K'
        try simp only [Act.put, List.setIfInBounds_toArray, List.set_cons_zero, List.set_cons_succ]
        refine wpAnyH_done (by kernel_rfl) ?_ _
        obtain ⟨Y2, hY2⟩ : ∃ Z, Z = w3.setCell ⟨V, 1, none⟩ (Value.slice (some ⟨g', 0, none⟩) (sh.length + 1) c') := ⟨_, rfl⟩
        rw [← hY2] at E1 F3 hs
        have PB3 := hs
        clear hs k1 k3 V3 hown hgrow hnew D PB
        gi_wp2_with fail
        simp only [← hY2]
        clear hY2
        have zY2 : W0.heap.size ≤ Y2.heap.size := E1.fr.size
        have D : Below Y2.heap.size Y2 Y2.drew := (Below.refl _ _).drew
        refine wpIn_round_held (S := fun u => Blk u P #[.int .i64 (g 0), .int .i64 (g 1)] 120) (by kernel_rfl) (by kernel_rfl) (fun ⟨_, _, h⟩ => h) (PB3.below (Below.refl _ _).drew PB3.lt) (fun hs => ?_)
        obtain ⟨ZD, hZD⟩ := abs_w D
        rw [← hZD] at D hs
        simp only [← hZD]
        clear hZD
        refine take_at (i := 0) (d := some 43) (v := ?mv42) rfl rfl (by kernel_rfl) (by kernel_rfl) (by kernel_rfl) (fun _ _ _ h => h) (Or.inl ⟨by rfl, ?my42⟩) hs ?mg42
        case my42 => (intro z hSz; (have e0 := hSz.cell 0; have e1 := hSz.cell 1; simp at e0 e1); go_simp; (try with_reducible rfl))
        try simp only [Act.put, List.setIfInBounds_toArray, List.set_cons_zero, List.set_cons_succ]
        refine take_at (i := 2) (d := some 45) (v := ?mv43) rfl rfl (by kernel_rfl) (by kernel_rfl) (by kernel_rfl) (fun _ _ _ h => h) (Or.inl ⟨by rfl, ?my43⟩) hs ?mg43
        case my43 => (intro z hSz; (have e0 := hSz.cell 0; have e1 := hSz.cell 1; simp at e0 e1); go_simp; (try with_reducible rfl))
        try simp only [Act.put, List.setIfInBounds_toArray, List.set_cons_zero, List.set_cons_succ]
        refine take_at (i := 4) (d := some 47) (v := ?mv44) rfl rfl (by kernel_rfl) (by kernel_rfl) (by kernel_rfl) (fun _ _ _ h => h) (Or.inl ⟨by rfl, ?my44⟩) hs ?mg44
        case my44 => (intro z hSz; (have e0 := hSz.cell 0; have e1 := hSz.cell 1; simp at e0 e1); go_simp; (try with_reducible rfl))
        try simp only [Act.put, List.setIfInBounds_toArray, List.set_cons_zero, List.set_cons_succ]
        refine wpAnyH_ready (rs := [1, 3]) (by kernel_rfl) (by simp) ?_
        refine AllReadyH.cons rfl (fun K' hK' => ?_) (AllReadyH.cons rfl (fun K' hK' => ?_) AllReadyH.nil)
        · have v1 := (E1.below D).v.cell 2
          simp at v1
          go_simp
          refine hK'.out _ _ hs (fun hs => ?_)
          clear hK' K'
          try simp only [Act.put, List.setIfInBounds_toArray, List.set_cons_zero, List.set_cons_succ]
          clear v1
          refine wpAnyH_ready (rs := [3]) (by kernel_rfl) (by simp) ?_
          refine AllReadyH.cons rfl (fun K' hK' => ?_) AllReadyH.nil
          go_simp
          refine (PUB.out _ (E1.below D).fr).mono ?_
          rintro _ u4 ⟨rfl, hb4⟩
          have D1 := D.trans (hb4.mono D.size)
          refine hK'.out _ _ (hs.below hb4 hs.lt) (fun hs => ?_)
          clear hK' K'
          try simp only [Act.put, List.setIfInBounds_toArray, List.set_cons_zero, List.set_cons_succ]
          have D := D1
          refine wpAnyH_ready (rs := [5]) (by kernel_rfl) (by simp) ?_
          refine AllReadyH.cons rfl (fun K' hK' => ?_) AllReadyH.nil
          go_simp
          refine (OS _).mono ?_
          rintro _ z ⟨rfl, hz⟩
          subst hz
          refine hK'.out _ _ hs (fun hs => ?_)
          clear hK' K'
          try simp only [Act.put, List.setIfInBounds_toArray, List.set_cons_zero, List.set_cons_succ]
          refine take_at (i := 6) (d := some 49) (v := ?mv45) rfl rfl (by kernel_rfl) (by kernel_rfl) (by kernel_rfl) (fun _ _ _ h => h) (Or.inl ⟨by rfl, ?my45⟩) hs ?mg45
          case my45 => (intro z hSz; (have e0 := hSz.cell 0; have e1 := hSz.cell 1; simp at e0 e1); go_simp; (try with_reducible rfl))
          try simp only [Act.put, List.setIfInBounds_toArray, List.set_cons_zero, List.set_cons_succ]
          refine wpAnyH_ready (rs := [7]) (by kernel_rfl) (by simp) ?_
          refine AllReadyH.cons rfl (fun K' hK' => ?_) AllReadyH.nil
          go_simp
          refine hK'.out _ _ (hs.below ((Below.refl _ _).alloc (Nat.le_refl _) _) hs.lt) (fun hs => ?_)
          clear hK' K'
          try simp only [Act.put, List.setIfInBounds_toArray, List.set_cons_zero, List.set_cons_succ]
          have D := D.alloc D.size (.cells #[.int .i64 (h (1 - j))] 2)
          refine wpAnyH_ready (rs := [8]) (by kernel_rfl) (by simp) ?_
          refine AllReadyH.cons rfl (fun K' hK' => ?_) AllReadyH.nil
          refine step_app1 rfl _ _ 34 rfl W0.heap.size 2 i0 Tryz.underlying34 hi0 hz0 hz1 hz2 ov ot.length (ot.map (.int .i64)) rfl (E1.below D).o _ 1 (h (1 - j)) rfl (by simp [go_sem]) (by omega) (Nat.le_trans zY2 D.size) ?_
          intro g' c' w3 hown hgrow hnew
          obtain ⟨E2, V4, F4⟩ := E1.other1 (by omega) D hown hgrow hnew
          have nB : ov.ownBlock ≠ some P := fun e => by have := own_ne hi.o P e; omega
          refine hK'.out _ _ (hs.fr (M := fun q => ov.ownBlock = some q) (.of_grown hgrow (fun q e => e)) nB) (fun hs => ?_)
          clear hK' K'
          try simp only [Act.put, List.setIfInBounds_toArray, List.set_cons_zero, List.set_cons_succ]
          have k1 := V4.cell 2
          have k3 := V4.frozen 2
          simp at k1
          refine wpAnyH_ready (rs := [9]) (by kernel_rfl) (by simp) ?_
          refine AllReadyH.cons rfl (fun K' hK' => ?_) AllReadyH.nil
          go_simp
          refine hK'.out _ _ hs (fun hs => ?_)
          clear hK' K'
          try simp only [Act.put, List.setIfInBounds_toArray, List.set_cons_zero, List.set_cons_succ]
          refine wpAnyH_ready (rs := [10]) (by kernel_rfl) (by simp) ?_
          refine AllReadyH.cons rfl (fun K' hK' => ?_) AllReadyH.nil
          go_simp
          refine hK'.out _ _ (hs.fr (M := fun q => q = V) (by refine Fr.setCell (Fr.refl _ _) _ _ ?_; rfl) (show P ≠ V by omega)) (fun hs => ?_)
          clear hK' K'
          try simp only [Act.put, List.setIfInBounds_toArray, List.set_cons_zero, List.set_cons_succ]
          refine wpAnyH_done (by kernel_rfl) ?_ _
          have FC : Fr (fun q => q = V ∨ sv.ownBlock = some q ∨ ov.ownBlock = some q) X _ := ((Fr.of_below DXY (Nat.le_refl _)).trans F3 (fun i _ e => e.elim .inl (fun e => .inr (.inl e)))).trans F4 (fun i _ e => e.elim .inl (fun e => .inr (.inr e)))
          exact FIN _ _ _ E2 FC
        · go_simp
          refine (PUB.out _ (E1.below D).fr).mono ?_
          rintro _ u4 ⟨rfl, hb4⟩
          have D1 := D.trans (hb4.mono D.size)
          refine hK'.out _ _ (hs.below hb4 hs.lt) (fun hs => ?_)
          clear hK' K'
          try simp only [Act.put, List.setIfInBounds_toArray, List.set_cons_zero, List.set_cons_succ]
          have D := D1
          refine wpAnyH_ready (rs := [1, 5]) (by kernel_rfl) (by simp) ?_
          refine AllReadyH.cons rfl (fun K' hK' => ?_) (AllReadyH.cons rfl (fun K' hK' => ?_) AllReadyH.nil)
          · have v1 := (E1.below D).v.cell 2
            simp at v1
            go_simp
            refine hK'.out _ _ hs (fun hs => ?_)
            clear hK' K'
            try simp only [Act.put, List.setIfInBounds_toArray, List.set_cons_zero, List.set_cons_succ]
            clear v1
            refine wpAnyH_ready (rs := [5]) (by kernel_rfl) (by simp) ?_
            refine AllReadyH.cons rfl (fun K' hK' => ?_) AllReadyH.nil
            go_simp
            refine (OS _).mono ?_
            rintro _ z ⟨rfl, hz⟩
            subst hz
            refine hK'.out _ _ hs (fun hs => ?_)
            clear hK' K'
            try simp only [Act.put, List.setIfInBounds_toArray, List.set_cons_zero, List.set_cons_succ]
            refine take_at (i := 6) (d := some 49) (v := ?mv46) rfl rfl (by kernel_rfl) (by kernel_rfl) (by kernel_rfl) (fun _ _ _ h => h) (Or.inl ⟨by rfl, ?my46⟩) hs ?mg46
            case my46 => (intro z hSz; (have e0 := hSz.cell 0; have e1 := hSz.cell 1; simp at e0 e1); go_simp; (try with_reducible rfl))
            try simp only [Act.put, List.setIfInBounds_toArray, List.set_cons_zero, List.set_cons_succ]
            refine wpAnyH_ready (rs := [7]) (by kernel_rfl) (by simp) ?_
            refine AllReadyH.cons rfl (fun K' hK' => ?_) AllReadyH.nil
            go_simp
            refine hK'.out _ _ (hs.below ((Below.refl _ _).alloc (Nat.le_refl _) _) hs.lt) (fun hs => ?_)
            clear hK' K'
            try simp only [Act.put, List.setIfInBounds_toArray, List.set_cons_zero, List.set_cons_succ]
            have D := D.alloc D.size (.cells #[.int .i64 (h (1 - j))] 2)
            refine wpAnyH_ready (rs := [8]) (by kernel_rfl) (by simp) ?_
            refine AllReadyH.cons rfl (fun K' hK' => ?_) AllReadyH.nil
            refine step_app1 rfl _ _ 34 rfl W0.heap.size 2 i0 Tryz.underlying34 hi0 hz0 hz1 hz2 ov ot.length (ot.map (.int .i64)) rfl (E1.below D).o _ 1 (h (1 - j)) rfl (by simp [go_sem]) (by omega) (Nat.le_trans zY2 D.size) ?_
            intro g' c' w3 hown hgrow hnew
            obtain ⟨E2, V4, F4⟩ := E1.other1 (by omega) D hown hgrow hnew
            have nB : ov.ownBlock ≠ some P := fun e => by have := own_ne hi.o P e; omega
            refine hK'.out _ _ (hs.fr (M := fun q => ov.ownBlock = some q) (.of_grown hgrow (fun q e => e)) nB) (fun hs => ?_)
            clear hK' K'
            try simp only [Act.put, List.setIfInBounds_toArray, List.set_cons_zero, List.set_cons_succ]
            have k1 := V4.cell 2
            have k3 := V4.frozen 2
            simp at k1
            refine wpAnyH_ready (rs := [9]) (by kernel_rfl) (by simp) ?_
            refine AllReadyH.cons rfl (fun K' hK' => ?_) AllReadyH.nil
            go_simp
            refine hK'.out _ _ hs (fun hs => ?_)
            clear hK' K'
            try simp only [Act.put, List.setIfInBounds_toArray, List.set_cons_zero, List.set_cons_succ]
            refine wpAnyH_ready (rs := [10]) (by kernel_rfl) (by simp) ?_
            refine AllReadyH.cons rfl (fun K' hK' => ?_) AllReadyH.nil
            go_simp
            refine hK'.out _ _ (hs.fr (M := fun q => q = V) (by refine Fr.setCell (Fr.refl _ _) _ _ ?_; rfl) (show P ≠ V by omega)) (fun hs => ?_)
            clear hK' K'
            try simp only [Act.put, List.setIfInBounds_toArray, List.set_cons_zero, List.set_cons_succ]
            refine wpAnyH_done (by kernel_rfl) ?_ _
            have FC : Fr (fun q => q = V ∨ sv.ownBlock = some q ∨ ov.ownBlock = some q) X _ := ((Fr.of_below DXY (Nat.le_refl _)).trans F3 (fun i _ e => e.elim .inl (fun e => .inr (.inl e)))).trans F4 (fun i _ e => e.elim .inl (fun e => .inr (.inr e)))
            exact FIN _ _ _ E2 FC
          · go_simp
            refine (OS _).mono ?_
            rintro _ z ⟨rfl, hz⟩
            subst hz
            refine hK'.out _ _ hs (fun hs => ?_)
            clear hK' K'
            try simp only [Act.put, List.setIfInBounds_toArray, List.set_cons_zero, List.set_cons_succ]
            refine take_at (i := 6) (d := some 49) (v := ?mv47) rfl rfl (by kernel_rfl) (by kernel_rfl) (by kernel_rfl) (fun _ _ _ h => h) (Or.inl ⟨by rfl, ?my47⟩) hs ?mg47
            case my47 => (intro z hSz; (have e0 := hSz.cell 0; have e1 := hSz.cell 1; simp at e0 e1); go_simp; (try with_reducible rfl))
            try simp only [Act.put, List.setIfInBounds_toArray, List.set_cons_zero, List.set_cons_succ]
            refine wpAnyH_ready (rs := [1, 7]) (by kernel_rfl) (by simp) ?_
            refine AllReadyH.cons rfl (fun K' hK' => ?_) (AllReadyH.cons rfl (fun K' hK' => ?_) AllReadyH.nil)
            · have v1 := (E1.below D).v.cell 2
              simp at v1
              go_simp
              refine hK'.out _ _ hs (fun hs => ?_)
              clear hK' K'
              try simp only [Act.put, List.setIfInBounds_toArray, List.set_cons_zero, List.set_cons_succ]
              clear v1
              refine wpAnyH_ready (rs := [7]) (by kernel_rfl) (by simp) ?_
              refine AllReadyH.cons rfl (fun K' hK' => ?_) AllReadyH.nil
              go_simp
              refine hK'.out _ _ (hs.below ((Below.refl _ _).alloc (Nat.le_refl _) _) hs.lt) (fun hs => ?_)
              clear hK' K'
              try simp only [Act.put, List.setIfInBounds_toArray, List.set_cons_zero, List.set_cons_succ]
              have D := D.alloc D.size (.cells #[.int .i64 (h (1 - j))] 2)
              refine wpAnyH_ready (rs := [8]) (by kernel_rfl) (by simp) ?_
              refine AllReadyH.cons rfl (fun K' hK' => ?_) AllReadyH.nil
              refine step_app1 rfl _ _ 34 rfl W0.heap.size 2 i0 Tryz.underlying34 hi0 hz0 hz1 hz2 ov ot.length (ot.map (.int .i64)) rfl (E1.below D).o _ 1 (h (1 - j)) rfl (by simp [go_sem]) (by omega) (Nat.le_trans zY2 D.size) ?_
              intro g' c' w3 hown hgrow hnew
              obtain ⟨E2, V4, F4⟩ := E1.other1 (by omega) D hown hgrow hnew
              have nB : ov.ownBlock ≠ some P := fun e => by have := own_ne hi.o P e; omega
              refine hK'.out _ _ (hs.fr (M := fun q => ov.ownBlock = some q) (.of_grown hgrow (fun q e => e)) nB) (fun hs => ?_)
              clear hK' K'
              try simp only [Act.put, List.setIfInBounds_toArray, List.set_cons_zero, List.set_cons_succ]
              have k1 := V4.cell 2
              have k3 := V4.frozen 2
              simp at k1
              refine wpAnyH_ready (rs := [9]) (by kernel_rfl) (by simp) ?_
              refine AllReadyH.cons rfl (fun K' hK' => ?_) AllReadyH.nil
              go_simp
              refine hK'.out _ _ hs (fun hs => ?_)
              clear hK' K'
              try simp only [Act.put, List.setIfInBounds_toArray, List.set_cons_zero, List.set_cons_succ]
              refine wpAnyH_ready (rs := [10]) (by kernel_rfl) (by simp) ?_
              refine AllReadyH.cons rfl (fun K' hK' => ?_) AllReadyH.nil
              go_simp
              refine hK'.out _ _ (hs.fr (M := fun q => q = V) (by refine Fr.setCell (Fr.refl _ _) _ _ ?_; rfl) (show P ≠ V by omega)) (fun hs => ?_)
              clear hK' K'
              try simp only [Act.put, List.setIfInBounds_toArray, List.set_cons_zero, List.set_cons_succ]
              refine wpAnyH_done (by kernel_rfl) ?_ _
              have FC : Fr (fun q => q = V ∨ sv.ownBlock = some q ∨ ov.ownBlock = some q) X _ := ((Fr.of_below DXY (Nat.le_refl _)).trans F3 (fun i _ e => e.elim .inl (fun e => .inr (.inl e)))).trans F4 (fun i _ e => e.elim .inl (fun e => .inr (.inr e)))
              exact FIN _ _ _ E2 FC
            · go_simp
              refine hK'.out _ _ (hs.below ((Below.refl _ _).alloc (Nat.le_refl _) _) hs.lt) (fun hs => ?_)
              clear hK' K'
              try simp only [Act.put, List.setIfInBounds_toArray, List.set_cons_zero, List.set_cons_succ]
              have D := D.alloc D.size (.cells #[.int .i64 (h (1 - j))] 2)
              refine wpAnyH_ready (rs := [1]) (by kernel_rfl) (by simp) ?_
              refine AllReadyH.cons rfl (fun K' hK' => ?_) AllReadyH.nil
              have v1 := (E1.below D).v.cell 2
              simp at v1
              go_simp
              refine hK'.out _ _ hs (fun hs => ?_)
              clear hK' K'
              try simp only [Act.put, List.setIfInBounds_toArray, List.set_cons_zero, List.set_cons_succ]
              clear v1
              refine wpAnyH_ready (rs := [8]) (by kernel_rfl) (by simp) ?_
              refine AllReadyH.cons rfl (fun K' hK' => ?_) AllReadyH.nil
              refine step_app1 rfl _ _ 34 rfl W0.heap.size 2 i0 Tryz.underlying34 hi0 hz0 hz1 hz2 ov ot.length (ot.map (.int .i64)) rfl (E1.below D).o _ 1 (h (1 - j)) rfl (by simp [go_sem]) (by omega) (Nat.le_trans zY2 D.size) ?_
              intro g' c' w3 hown hgrow hnew
              obtain ⟨E2, V4, F4⟩ := E1.other1 (by omega) D hown hgrow hnew
              have nB : ov.ownBlock ≠ some P := fun e => by have := own_ne hi.o P e; omega
              refine hK'.out _ _ (hs.fr (M := fun q => ov.ownBlock = some q) (.of_grown hgrow (fun q e => e)) nB) (fun hs => ?_)
              clear hK' K'
              try simp only [Act.put, List.setIfInBounds_toArray, List.set_cons_zero, List.set_cons_succ]
              have k1 := V4.cell 2
              have k3 := V4.frozen 2
              simp at k1
              refine wpAnyH_ready (rs := [9]) (by kernel_rfl) (by simp) ?_
              refine AllReadyH.cons rfl (fun K' hK' => ?_) AllReadyH.nil
              go_simp
              refine hK'.out _ _ hs (fun hs => ?_)
              clear hK' K'
              try simp only [Act.put, List.setIfInBounds_toArray, List.set_cons_zero, List.set_cons_succ]
              refine wpAnyH_ready (rs := [10]) (by kernel_rfl) (by simp) ?_
              refine AllReadyH.cons rfl (fun K' hK' => ?_) AllReadyH.nil
              go_simp
              refine hK'.out _ _ (hs.fr (M := fun q => q = V) (by refine Fr.setCell (Fr.refl _ _) _ _ ?_; rfl) (show P ≠ V by omega)) (fun hs => ?_)
              clear hK' K'
              try simp only [Act.put, List.setIfInBounds_toArray, List.set_cons_zero, List.set_cons_succ]
              refine wpAnyH_done (by kernel_rfl) ?_ _
              have FC : Fr (fun q => q = V ∨ sv.ownBlock = some q ∨ ov.ownBlock = some q) X _ := ((Fr.of_below DXY (Nat.le_refl _)).trans F3 (fun i _ e => e.elim .inl (fun e => .inr (.inl e)))).trans F4 (fun i _ e => e.elim .inl (fun e => .inr (.inr e)))
              exact FIN _ _ _ E2 FC
      · go_simp
        refine hK'.out _ _ (hs.below ((Below.refl _ _).alloc (Nat.le_refl _) _) hs.lt) (fun hs => ?_)
        clear hK' K'
        try simp only [Act.put, List.setIfInBounds_toArray, List.set_cons_zero, List.set_cons_succ]
        have D := D.alloc D.size (.cells #[.int .i64 (g j)] 2)
        refine wpAnyH_ready (rs := [1]) (by kernel_rfl) (by simp) ?_
        refine AllReadyH.cons rfl (fun K' hK' => ?_) AllReadyH.nil
        have v1 := (HY.below D).v.cell 1
        simp at v1
        go_simp
        refine hK'.out _ _ hs (fun hs => ?_)
        clear hK' K'
        try simp only [Act.put, List.setIfInBounds_toArray, List.set_cons_zero, List.set_cons_succ]
        clear v1
        refine wpAnyH_ready (rs := [6]) (by kernel_rfl) (by simp) ?_
        refine AllReadyH.cons rfl (fun K' hK' => ?_) AllReadyH.nil
        refine step_app1 rfl _ _ 34 rfl W0.heap.size 2 i0 Tryz.underlying34 hi0 hz0 hz1 hz2 sv sh.length (sh.map (.int .i64)) rfl (HY.below D).s _ 1 (g j) rfl (by simp [go_sem]) (by omega) (Nat.le_trans zY D.size) ?_
        intro g' c' w3 hown hgrow hnew
        obtain ⟨E1, V3, F3⟩ := HY.show1 (by omega) D hown hgrow hnew
        have nB : sv.ownBlock ≠ some P := fun e => by have := own_ne hi.s P e; omega
        refine hK'.out _ _ (hs.fr (M := fun q => sv.ownBlock = some q) (.of_grown hgrow (fun q e => e)) nB) (fun hs => ?_)
        clear hK' K'
        try simp only [Act.put, List.setIfInBounds_toArray, List.set_cons_zero, List.set_cons_succ]
        have k1 := V3.cell 1
        have k3 := V3.frozen 1
        simp at k1
        refine wpAnyH_ready (rs := [7]) (by kernel_rfl) (by simp) ?_
        refine AllReadyH.cons rfl (fun K' hK' => ?_) AllReadyH.nil
        go_simp
        refine hK'.out _ _ hs (fun hs => ?_)
        clear hK' K'
        try simp only [Act.put, List.setIfInBounds_toArray, List.set_cons_zero, List.set_cons_succ]
        refine wpAnyH_ready (rs := [8]) (by kernel_rfl) (by simp) ?_
        refine AllReadyH.cons rfl (fun K' hK' => ?_) AllReadyH.nil
        go_simp
        refine hK'.out _ _ (hs.fr (M := fun q => q = V) (by refine Fr.setCell (Fr.refl _ _) _ _ ?_; rfl) (show P ≠ V by omega)) (fun hs => ?_)
        clear hK' K'
        try simp only [Act.put, List.setIfInBounds_toArray, List.set_cons_zero, List.set_cons_succ]
        refine wpAnyH_done (by kernel_rfl) ?_ _
        obtain ⟨Y2, hY2⟩ : ∃ Z, Z = w3.setCell ⟨V, 1, none⟩ (Value.slice (some ⟨g', 0, none⟩) (sh.length + 1) c') := ⟨_, rfl⟩
        rw [← hY2] at E1 F3 hs
        have PB3 := hs
        clear hs k1 k3 V3 hown hgrow hnew D PB
        gi_wp2_with fail
        simp only [← hY2]
        clear hY2
        have zY2 : W0.heap.size ≤ Y2.heap.size := E1.fr.size
        have D : Below Y2.heap.size Y2 Y2.drew := (Below.refl _ _).drew
        refine wpIn_round_held (S := fun u => Blk u P #[.int .i64 (g 0), .int .i64 (g 1)] 120) (by kernel_rfl) (by kernel_rfl) (fun ⟨_, _, h⟩ => h) (PB3.below (Below.refl _ _).drew PB3.lt) (fun hs => ?_)
        obtain ⟨ZD, hZD⟩ := abs_w D
        rw [← hZD] at D hs
        simp only [← hZD]
        clear hZD
        refine take_at (i := 0) (d := some 43) (v := ?mv48) rfl rfl (by kernel_rfl) (by kernel_rfl) (by kernel_rfl) (fun _ _ _ h => h) (Or.inl ⟨by rfl, ?my48⟩) hs ?mg48
        case my48 => (intro z hSz; (have e0 := hSz.cell 0; have e1 := hSz.cell 1; simp at e0 e1); go_simp; (try with_reducible rfl))
        try simp only [Act.put, List.setIfInBounds_toArray, List.set_cons_zero, List.set_cons_succ]
        refine take_at (i := 2) (d := some 45) (v := ?mv49) rfl rfl (by kernel_rfl) (by kernel_rfl) (by kernel_rfl) (fun _ _ _ h => h) (Or.inl ⟨by rfl, ?my49⟩) hs ?mg49
        case my49 => (intro z hSz; (have e0 := hSz.cell 0; have e1 := hSz.cell 1; simp at e0 e1); go_simp; (try with_reducible rfl))
        try simp only [Act.put, List.setIfInBounds_toArray, List.set_cons_zero, List.set_cons_succ]
        refine take_at (i := 4) (d := some 47) (v := ?mv50) rfl rfl (by kernel_rfl) (by kernel_rfl) (by kernel_rfl) (fun _ _ _ h => h) (Or.inl ⟨by rfl, ?my50⟩) hs ?mg50
        case my50 => (intro z hSz; (have e0 := hSz.cell 0; have e1 := hSz.cell 1; simp at e0 e1); go_simp; (try with_reducible rfl))
        try simp only [Act.put, List.setIfInBounds_toArray, List.set_cons_zero, List.set_cons_succ]
        refine wpAnyH_ready (rs := [1, 3]) (by kernel_rfl) (by simp) ?_
        refine AllReadyH.cons rfl (fun K' hK' => ?_) (AllReadyH.cons rfl (fun K' hK' => ?_) AllReadyH.nil)
        · have v1 := (E1.below D).v.cell 2
          simp at v1
          go_simp
          refine hK'.out _ _ hs (fun hs => ?_)
          clear hK' K'
          try simp only [Act.put, List.setIfInBounds_toArray, List.set_cons_zero, List.set_cons_succ]
          clear v1
          refine wpAnyH_ready (rs := [3]) (by kernel_rfl) (by simp) ?_
          refine AllReadyH.cons rfl (fun K' hK' => ?_) AllReadyH.nil
          go_simp
          refine (PUB.out _ (E1.below D).fr).mono ?_
          rintro _ u4 ⟨rfl, hb4⟩
          have D1 := D.trans (hb4.mono D.size)
          refine hK'.out _ _ (hs.below hb4 hs.lt) (fun hs => ?_)
          clear hK' K'
          try simp only [Act.put, List.setIfInBounds_toArray, List.set_cons_zero, List.set_cons_succ]
          have D := D1
          refine wpAnyH_ready (rs := [5]) (by kernel_rfl) (by simp) ?_
          refine AllReadyH.cons rfl (fun K' hK' => ?_) AllReadyH.nil
          go_simp
          refine (OS _).mono ?_
          rintro _ z ⟨rfl, hz⟩
          subst hz
          refine hK'.out _ _ hs (fun hs => ?_)
          clear hK' K'
          try simp only [Act.put, List.setIfInBounds_toArray, List.set_cons_zero, List.set_cons_succ]
          refine take_at (i := 6) (d := some 49) (v := ?mv51) rfl rfl (by kernel_rfl) (by kernel_rfl) (by kernel_rfl) (fun _ _ _ h => h) (Or.inl ⟨by rfl, ?my51⟩) hs ?mg51
          case my51 => (intro z hSz; (have e0 := hSz.cell 0; have e1 := hSz.cell 1; simp at e0 e1); go_simp; (try with_reducible rfl))
          try simp only [Act.put, List.setIfInBounds_toArray, List.set_cons_zero, List.set_cons_succ]
          refine wpAnyH_ready (rs := [7]) (by kernel_rfl) (by simp) ?_
          refine AllReadyH.cons rfl (fun K' hK' => ?_) AllReadyH.nil
          go_simp
          refine hK'.out _ _ (hs.below ((Below.refl _ _).alloc (Nat.le_refl _) _) hs.lt) (fun hs => ?_)
          clear hK' K'
          try simp only [Act.put, List.setIfInBounds_toArray, List.set_cons_zero, List.set_cons_succ]
          have D := D.alloc D.size (.cells #[.int .i64 (h (1 - j))] 2)
          refine wpAnyH_ready (rs := [8]) (by kernel_rfl) (by simp) ?_
          refine AllReadyH.cons rfl (fun K' hK' => ?_) AllReadyH.nil
          refine step_app1 rfl _ _ 34 rfl W0.heap.size 2 i0 Tryz.underlying34 hi0 hz0 hz1 hz2 ov ot.length (ot.map (.int .i64)) rfl (E1.below D).o _ 1 (h (1 - j)) rfl (by simp [go_sem]) (by omega) (Nat.le_trans zY2 D.size) ?_
          intro g' c' w3 hown hgrow hnew
          obtain ⟨E2, V4, F4⟩ := E1.other1 (by omega) D hown hgrow hnew
          have nB : ov.ownBlock ≠ some P := fun e => by have := own_ne hi.o P e; omega
          refine hK'.out _ _ (hs.fr (M := fun q => ov.ownBlock = some q) (.of_grown hgrow (fun q e => e)) nB) (fun hs => ?_)
          clear hK' K'
          try simp only [Act.put, List.setIfInBounds_toArray, List.set_cons_zero, List.set_cons_succ]
          have k1 := V4.cell 2
          have k3 := V4.frozen 2
          simp at k1
          refine wpAnyH_ready (rs := [9]) (by kernel_rfl) (by simp) ?_
          refine AllReadyH.cons rfl (fun K' hK' => ?_) AllReadyH.nil
          go_simp
          refine hK'.out _ _ hs (fun hs => ?_)
          clear hK' K'
          try simp only [Act.put, List.setIfInBounds_toArray, List.set_cons_zero, List.set_cons_succ]
          refine wpAnyH_ready (rs := [10]) (by kernel_rfl) (by simp) ?_
          refine AllReadyH.cons rfl (fun K' hK' => ?_) AllReadyH.nil
          go_simp
          refine hK'.out _ _ (hs.fr (M := fun q => q = V) (by refine Fr.setCell (Fr.refl _ _) _ _ ?_; rfl) (show P ≠ V by omega)) (fun hs => ?_)
          clear hK' K'
          try simp only [Act.put, List.setIfInBounds_toArray, List.set_cons_zero, List.set_cons_succ]
          refine wpAnyH_done (by kernel_rfl) ?_ _
          have FC : Fr (fun q => q = V ∨ sv.ownBlock = some q ∨ ov.ownBlock = some q) X _ := ((Fr.of_below DXY (Nat.le_refl _)).trans F3 (fun i _ e => e.elim .inl (fun e => .inr (.inl e)))).trans F4 (fun i _ e => e.elim .inl (fun e => .inr (.inr e)))
          exact FIN _ _ _ E2 FC
        · go_simp
          refine (PUB.out _ (E1.below D).fr).mono ?_
          rintro _ u4 ⟨rfl, hb4⟩
          have D1 := D.trans (hb4.mono D.size)
          refine hK'.out _ _ (hs.below hb4 hs.lt) (fun hs => ?_)
          clear hK' K'
          try simp only [Act.put, List.setIfInBounds_toArray, List.set_cons_zero, List.set_cons_succ]
          have D := D1
          refine wpAnyH_ready (rs := [1, 5]) (by kernel_rfl) (by simp) ?_
          refine AllReadyH.cons rfl (fun K' hK' => ?_) (AllReadyH.cons rfl (fun K' hK' => ?_) AllReadyH.nil)
          · have v1 := (E1.below D).v.cell 2
            simp at v1
            go_simp
            refine hK'.out _ _ hs (fun hs => ?_)
            clear hK' K'
            try simp only [Act.put, List.setIfInBounds_toArray, List.set_cons_zero, List.set_cons_succ]
            clear v1
            refine wpAnyH_ready (rs := [5]) (by kernel_rfl) (by simp) ?_
            refine AllReadyH.cons rfl (fun K' hK' => ?_) AllReadyH.nil
            go_simp
            refine (OS _).mono ?_
            rintro _ z ⟨rfl, hz⟩
            subst hz
            refine hK'.out _ _ hs (fun hs => ?_)
            clear hK' K'
            try simp only [Act.put, List.setIfInBounds_toArray, List.set_cons_zero, List.set_cons_succ]
            refine take_at (i := 6) (d := some 49) (v := ?mv52) rfl rfl (by kernel_rfl) (by kernel_rfl) (by kernel_rfl) (fun _ _ _ h => h) (Or.inl ⟨by rfl, ?my52⟩) hs ?mg52
            case my52 => (intro z hSz; (have e0 := hSz.cell 0; have e1 := hSz.cell 1; simp at e0 e1); go_simp; (try with_reducible rfl))
            try simp only [Act.put, List.setIfInBounds_toArray, List.set_cons_zero, List.set_cons_succ]
            refine wpAnyH_ready (rs := [7]) (by kernel_rfl) (by simp) ?_
            refine AllReadyH.cons rfl (fun K' hK' => ?_) AllReadyH.nil
            go_simp
            refine hK'.out _ _ (hs.below ((Below.refl _ _).alloc (Nat.le_refl _) _) hs.lt) (fun hs => ?_)
            clear hK' K'
            try simp only [Act.put, List.setIfInBounds_toArray, List.set_cons_zero, List.set_cons_succ]
            have D := D.alloc D.size (.cells #[.int .i64 (h (1 - j))] 2)
            refine wpAnyH_ready (rs := [8]) (by kernel_rfl) (by simp) ?_
            refine AllReadyH.cons rfl (fun K' hK' => ?_) AllReadyH.nil
            refine step_app1 rfl _ _ 34 rfl W0.heap.size 2 i0 Tryz.underlying34 hi0 hz0 hz1 hz2 ov ot.length (ot.map (.int .i64)) rfl (E1.below D).o _ 1 (h (1 - j)) rfl (by simp [go_sem]) (by omega) (Nat.le_trans zY2 D.size) ?_
            intro g' c' w3 hown hgrow hnew
            obtain ⟨E2, V4, F4⟩ := E1.other1 (by omega) D hown hgrow hnew
            have nB : ov.ownBlock ≠ some P := fun e => by have := own_ne hi.o P e; omega
            refine hK'.out _ _ (hs.fr (M := fun q => ov.ownBlock = some q) (.of_grown hgrow (fun q e => e)) nB) (fun hs => ?_)
            clear hK' K'
            try simp only [Act.put, List.setIfInBounds_toArray, List.set_cons_zero, List.set_cons_succ]
            have k1 := V4.cell 2
            have k3 := V4.frozen 2
            simp at k1
            refine wpAnyH_ready (rs := [9]) (by kernel_rfl) (by simp) ?_
            refine AllReadyH.cons rfl (fun K' hK' => ?_) AllReadyH.nil
            go_simp
            refine hK'.out _ _ hs (fun hs => ?_)
            clear hK' K'
            try simp only [Act.put, List.setIfInBounds_toArray, List.set_cons_zero, List.set_cons_succ]
            refine wpAnyH_ready (rs := [10]) (by kernel_rfl) (by simp) ?_
            refine AllReadyH.cons rfl (fun K' hK' => ?_) AllReadyH.nil
            go_simp
            refine hK'.out _ _ (hs.fr (M := fun q => q = V) (by refine Fr.setCell (Fr.refl _ _) _ _ ?_; rfl) (show P ≠ V by omega)) (fun hs => ?_)
            clear hK' K'
            try simp only [Act.put, List.setIfInBounds_toArray, List.set_cons_zero, List.set_cons_succ]
            refine wpAnyH_done (by kernel_rfl) ?_ _
            have FC : Fr (fun q => q = V ∨ sv.ownBlock = some q ∨ ov.ownBlock = some q) X _ := ((Fr.of_below DXY (Nat.le_refl _)).trans F3 (fun i _ e => e.elim .inl (fun e => .inr (.inl e)))).trans F4 (fun i _ e => e.elim .inl (fun e => .inr (.inr e)))
            exact FIN _ _ _ E2 FC
          · go_simp
            refine (OS _).mono ?_
            rintro _ z ⟨rfl, hz⟩
            subst hz
            refine hK'.out _ _ hs (fun hs => ?_)
            clear hK' K'
            try simp only [Act.put, List.setIfInBounds_toArray, List.set_cons_zero, List.set_cons_succ]
            refine take_at (i := 6) (d := some 49) (v := ?mv53) rfl rfl (by kernel_rfl) (by kernel_rfl) (by kernel_rfl) (fun _ _ _ h => h) (Or.inl ⟨by rfl, ?my53⟩) hs ?mg53
            case my53 => (intro z hSz; (have e0 := hSz.cell 0; have e1 := hSz.cell 1; simp at e0 e1); go_simp; (try with_reducible rfl))
            try simp only [Act.put, List.setIfInBounds_toArray, List.set_cons_zero, List.set_cons_succ]
            refine wpAnyH_ready (rs := [1, 7]) (by kernel_rfl) (by simp) ?_
            refine AllReadyH.cons rfl (fun K' hK' => ?_) (AllReadyH.cons rfl (fun K' hK' => ?_) AllReadyH.nil)
            · have v1 := (E1.below D).v.cell 2
              simp at v1
              go_simp
              refine hK'.out _ _ hs (fun hs => ?_)
              clear hK' K'
              try simp only [Act.put, List.setIfInBounds_toArray, List.set_cons_zero, List.set_cons_succ]
              clear v1
              refine wpAnyH_ready (rs := [7]) (by kernel_rfl) (by simp) ?_
              refine AllReadyH.cons rfl (fun K' hK' => ?_) AllReadyH.nil
              go_simp
              refine hK'.out _ _ (hs.below ((Below.refl _ _).alloc (Nat.le_refl _) _) hs.lt) (fun hs => ?_)
              clear hK' K'
              try simp only [Act.put, List.setIfInBounds_toArray, List.set_cons_zero, List.set_cons_succ]
              have D := D.alloc D.size (.cells #[.int .i64 (h (1 - j))] 2)
              refine wpAnyH_ready (rs := [8]) (by kernel_rfl) (by simp) ?_
              refine AllReadyH.cons rfl (fun K' hK' => ?_) AllReadyH.nil
              refine step_app1 rfl _ _ 34 rfl W0.heap.size 2 i0 Tryz.underlying34 hi0 hz0 hz1 hz2 ov ot.length (ot.map (.int .i64)) rfl (E1.below D).o _ 1 (h (1 - j)) rfl (by simp [go_sem]) (by omega) (Nat.le_trans zY2 D.size) ?_
              intro g' c' w3 hown hgrow hnew
              obtain ⟨E2, V4, F4⟩ := E1.other1 (by omega) D hown hgrow hnew
              have nB : ov.ownBlock ≠ some P := fun e => by have := own_ne hi.o P e; omega
              refine hK'.out _ _ (hs.fr (M := fun q => ov.ownBlock = some q) (.of_grown hgrow (fun q e => e)) nB) (fun hs => ?_)
              clear hK' K'
              try simp only [Act.put, List.setIfInBounds_toArray, List.set_cons_zero, List.set_cons_succ]
              have k1 := V4.cell 2
              have k3 := V4.frozen 2
              simp at k1
              refine wpAnyH_ready (rs := [9]) (by kernel_rfl) (by simp) ?_
              refine AllReadyH.cons rfl (fun K' hK' => ?_) AllReadyH.nil
              go_simp
              refine hK'.out _ _ hs (fun hs => ?_)
              clear hK' K'
              try simp only [Act.put, List.setIfInBounds_toArray, List.set_cons_zero, List.set_cons_succ]
              refine wpAnyH_ready (rs := [10]) (by kernel_rfl) (by simp) ?_
              refine AllReadyH.cons rfl (fun K' hK' => ?_) AllReadyH.nil
              go_simp
              refine hK'.out _ _ (hs.fr (M := fun q => q = V) (by refine Fr.setCell (Fr.refl _ _) _ _ ?_; rfl) (show P ≠ V by omega)) (fun hs => ?_)
              clear hK' K'
              try simp only [Act.put, List.setIfInBounds_toArray, List.set_cons_zero, List.set_cons_succ]
              refine wpAnyH_done (by kernel_rfl) ?_ _
              have FC : Fr (fun q => q = V ∨ sv.ownBlock = some q ∨ ov.ownBlock = some q) X _ := ((Fr.of_below DXY (Nat.le_refl _)).trans F3 (fun i _ e => e.elim .inl (fun e => .inr (.inl e)))).trans F4 (fun i _ e => e.elim .inl (fun e => .inr (.inr e)))
              exact FIN _ _ _ E2 FC
            · go_simp
              refine hK'.out _ _ (hs.below ((Below.refl _ _).alloc (Nat.le_refl _) _) hs.lt) (fun hs => ?_)
              clear hK' K'
              try simp only [Act.put, List.setIfInBounds_toArray, List.set_cons_zero, List.set_cons_succ]
              have D := D.alloc D.size (.cells #[.int .i64 (h (1 - j))] 2)
              refine wpAnyH_ready (rs := [1]) (by kernel_rfl) (by simp) ?_
              refine AllReadyH.cons rfl (fun K' hK' => ?_) AllReadyH.nil
              have v1 := (E1.below D).v.cell 2
              simp at v1
              go_simp
              refine hK'.out _ _ hs (fun hs => ?_)
              clear hK' K'
              try simp only [Act.put, List.setIfInBounds_toArray, List.set_cons_zero, List.set_cons_succ]
              clear v1
              refine wpAnyH_ready (rs := [8]) (by kernel_rfl) (by simp) ?_
              refine AllReadyH.cons rfl (fun K' hK' => ?_) AllReadyH.nil
              refine step_app1 rfl _ _ 34 rfl W0.heap.size 2 i0 Tryz.underlying34 hi0 hz0 hz1 hz2 ov ot.length (ot.map (.int .i64)) rfl (E1.below D).o _ 1 (h (1 - j)) rfl (by simp [go_sem]) (by omega) (Nat.le_trans zY2 D.size) ?_
              intro g' c' w3 hown hgrow hnew
              obtain ⟨E2, V4, F4⟩ := E1.other1 (by omega) D hown hgrow hnew
              have nB : ov.ownBlock ≠ some P := fun e => by have := own_ne hi.o P e; omega
              refine hK'.out _ _ (hs.fr (M := fun q => ov.ownBlock = some q) (.of_grown hgrow (fun q e => e)) nB) (fun hs => ?_)
              clear hK' K'
              try simp only [Act.put, List.setIfInBounds_toArray, List.set_cons_zero, List.set_cons_succ]
              have k1 := V4.cell 2
              have k3 := V4.frozen 2
              simp at k1
              refine wpAnyH_ready (rs := [9]) (by kernel_rfl) (by simp) ?_
              refine AllReadyH.cons rfl (fun K' hK' => ?_) AllReadyH.nil
              go_simp
              refine hK'.out _ _ hs (fun hs => ?_)
              clear hK' K'
              try simp only [Act.put, List.setIfInBounds_toArray, List.set_cons_zero, List.set_cons_succ]
              refine wpAnyH_ready (rs := [10]) (by kernel_rfl) (by simp) ?_
              refine AllReadyH.cons rfl (fun K' hK' => ?_) AllReadyH.nil
              go_simp
              refine hK'.out _ _ (hs.fr (M := fun q => q = V) (by refine Fr.setCell (Fr.refl _ _) _ _ ?_; rfl) (show P ≠ V by omega)) (fun hs => ?_)
              clear hK' K'
              try simp only [Act.put, List.setIfInBounds_toArray, List.set_cons_zero, List.set_cons_succ]
              refine wpAnyH_done (by kernel_rfl) ?_ _
              have FC : Fr (fun q => q = V ∨ sv.ownBlock = some q ∨ ov.ownBlock = some q) X _ := ((Fr.of_below DXY (Nat.le_refl _)).trans F3 (fun i _ e => e.elim .inl (fun e => .inr (.inl e)))).trans F4 (fun i _ e => e.elim .inl (fun e => .inr (.inr e)))
              exact FIN _ _ _ E2 FC
  case done =>
    rintro D ys Y hD rfl ⟨sv, ov, hi⟩ hKD
    rw [EN.out] at hi
    obtain ⟨a1, c1, rfl⟩ := own_row_shape hi.s
    obtain ⟨a2, c2, rfl⟩ := own_row_shape hi.o
    obtain ⟨sh, hsh⟩ : ∃ z, shW s i x (List.range 16) = z := ⟨_, rfl⟩
    obtain ⟨ot, hot⟩ : ∃ z, otW s i x (List.range 16) = z := ⟨_, rfl⟩
    rw [hsh, hot] at hi
    have ES : Hid (shW s i x (List.range 16) = sh) := hsh
    have EO : Hid (otW s i x (List.range 16) = ot) := hot
    clear hsh hot
    have v0 := hi.v.cell 0
    have v1 := hi.v.cell 1
    have v2 := hi.v.cell 2
    simp at v0 v1 v2
    have RY := R0.fr hi.fr (by have := BVh.out; omega)
    have bY := BWF.out Y hi.fr
    have HI : Hid (SgS V W0 i sh ot Y (.slice a1 sh.length c1) (.slice a2 ot.length c2)) := hi
    have k0 : Y.cell? ⟨B + 1 + 1 + 1, 0, none⟩ = some (.int .i64 0) := (RY.cell 0).trans rfl
    have k1 : Y.cell? ⟨B + 1 + 1 + 1, 1, none⟩ = some (.int .i64 0) := (RY.cell 1).trans rfl
    have k2 : Y.cell? ⟨B + 1 + 1 + 1, 2, none⟩ = some (.slice none 0 0) := (RY.cell 2).trans rfl
    have k3 : Y.cell? ⟨B + 1 + 1 + 1, 3, none⟩ = some (.slice none 0 0) := (RY.cell 3).trans rfl
    have f0 := RY.frozen 0
    have f1 := RY.frozen 1
    have f2 := RY.frozen 2
    have f3 := RY.frozen 3
    clear hi SN ON LS EN L0 S0 I0 X0
    simp only [← HV.out]
    gi_wp2
    obtain ⟨Z, hZ⟩ : ∃ Z, Z = ((((Y.setCell ⟨B + 1 + 1 + 1, 0, none⟩ (.int .i64 0)).setCell ⟨B + 1 + 1 + 1, 1, none⟩ (.int .i64 i)).setCell ⟨B + 1 + 1 + 1, 2, none⟩ (.slice a1 sh.length c1)).setCell ⟨B + 1 + 1 + 1, 3, none⟩ (.slice a2 ot.length c2)) := ⟨_, rfl⟩
    have fZ : Fr (fun k => k = B + 1 + 1 + 1) Y Z := by rw [hZ]; exact Fr.setCell (Fr.setCell (Fr.setCell (Fr.setCell (Fr.refl (fun k => k = B + 1 + 1 + 1) Y) ⟨B + 1 + 1 + 1, 0, none⟩ _ rfl) ⟨B + 1 + 1 + 1, 1, none⟩ _ rfl) ⟨B + 1 + 1 + 1, 2, none⟩ _ rfl) ⟨B + 1 + 1 + 1, 3, none⟩ _ rfl
    have bZ : Blk Z (B + 1 + 1 + 1) #[.int .i64 0, .int .i64 i, .slice a1 sh.length c1, .slice a2 ot.length c2] 90 := by
      have h := (((RY.set 0 (.int .i64 0)).set 1 (.int .i64 i)).set 2 (.slice a1 sh.length c1)).set 3 (.slice a2 ot.length c2)
      rw [hZ]; simpa using h
    rw [← hZ]
    clear hZ k0 k1 k2 k3 f0 f1 f2 f3
    have hD0 : w.heap.size ≤ D := by have := HB.out; omega
    have hKZ : Z.heap[D]? = some (.deferred (some [])) := (fZ.block D (Array.getElem?_eq_some_iff.1 hKD).1 (by omega)).trans hKD
    have wZ : Below w.heap.size w Z := bY.trans (fZ.below (fun k e => by have := HB.out; omega) bY.size)
    refine leaves_marks (base := w.heap.size) _ _ ⟨D, rfl, hD0, hKZ, by simp, trivial⟩ ?_
    intro W' hf
    have hfm : Fr (fun k => k = D) Z W' := hf.mono (fun k ⟨d, hd, e⟩ => by simp at hd; subst hd; simpa using e.symm)
    have bW := bZ.fr hfm (by omega)
    have q0 : W'.cell? ⟨B + 1 + 1 + 1, 0, none⟩ = some (.int .i64 0) := (bW.cell 0).trans rfl
    have q1 : W'.cell? ⟨B + 1 + 1 + 1, 1, none⟩ = some (.int .i64 i) := (bW.cell 1).trans rfl
    have q2 : W'.cell? ⟨B + 1 + 1 + 1, 2, none⟩ = some (.slice a1 sh.length c1) := (bW.cell 2).trans rfl
    have q3 : W'.cell? ⟨B + 1 + 1 + 1, 3, none⟩ = some (.slice a2 ot.length c2) := (bW.cell 3).trans rfl
    have sZ : OwnN Z W0.heap.size (.slice a1 sh.length c1) sh := own_fr HI.out.s fZ (fun g e1 e2 => by have := (HI.out.s.lt g e1).1; have := BVh.out; omega)
    have oZ : OwnN Z W0.heap.size (.slice a2 ot.length c2) ot := own_fr HI.out.o fZ (fun g e1 e2 => by have := (HI.out.o.lt g e1).1; have := BVh.out; omega)
    have noD : ∀ {v : Value} {zs : List Int}, OwnN Z W0.heap.size v zs → ∀ g, v.ownBlock = some g → ¬ g = D := fun o g e1 e2 => by
      obtain ⟨cs, hc⟩ := own_cells o e1
      rw [e2, hKZ] at hc
      cases hc
    refine ⟨.agg #[.int .i64 0, .int .i64 i, .slice a1 sh.length c1, .slice a2 ot.length c2], by simp [results, Tryz.results58, go_sem, q0, q1, q2, q3], a1, c1, a2, c2, by rw [ES.out, EO.out], ?_, ?_, ?_, ?_⟩
    · rw [ES.out]
      exact own_mono (own_fr sZ hfm (noD sZ)) (by have := HB.out; omega)
    · rw [EO.out]
      exact own_mono (own_fr oZ hfm (noD oZ)) (by have := HB.out; omega)
    · intro y z e1 e2 e3
      subst e1 e2
      exact HI.out.apart y.block rfl (by rw [e3]; rfl)
    · exact wZ.trans (hfm.below (fun k e => by omega) (by have := wZ.size; omega))
  case stop =>
    rintro D c pre X _ _ h _
    exact h.elim

set_option maxHeartbeats 2000000 in
theorem implSignSum_any (s i x : Int) (w : World) (hT : Tab w) :
    Calls Tryz.prog 58 #[.int .i64 s, .int .i64 i, .int .i64 x] w fun r w' => ∃ a1 c1 a2 c2, r = .returned (.agg #[.int .i64 (ssC s i x), .int .i64 (ssI s i x), .slice a1 (ssS s i x).length c1, .slice a2 (ssO s i x).length c2]) ∧ OwnN w' w.heap.size (.slice a1 (ssS s i x).length c1) (ssS s i x) ∧ OwnN w' w.heap.size (.slice a2 (ssO s i x).length c2) (ssO s i x) ∧ (∀ y z, a1 = some y → a2 = some z → y.block ≠ z.block) ∧ Below w.heap.size w w' := by
  have e0 : ssOk s i x = (decide (0 ≤ s ∧ s ≤ 999) && (decide (0 ≤ i ∧ i ≤ 7) && decide (0 ≤ x ∧ x ≤ 65520))) := by
    unfold ssOk
    rw [Bool.eq_iff_iff]
    simp only [Bool.and_eq_true, decide_eq_true_eq]
  cases hok : ssOk s i x with
  | true =>
    have HC : ssC s i x = 0 ∧ ssI s i x = i ∧ ssS s i x = shW s i x (List.range 16) ∧ ssO s i x = otW s i x (List.range 16) := by unfold ssC ssI ssS ssO; rw [hok]; exact ⟨rfl, rfl, rfl, rfl⟩
    rw [HC.1, HC.2.1, HC.2.2.1, HC.2.2.2]
    unfold ssOk at hok
    have h := of_decide_eq_true hok
    exact implSignSum_ok s i x w hT h.1 h.2.1 h.2.2
  | false =>
    have HC : Hid (ssC s i x = 3 ∧ ssI s i x = 0 ∧ ssS s i x = [] ∧ ssO s i x = []) := by show _ ∧ _; unfold ssC ssI ssS ssO; rw [hok]; exact ⟨rfl, rfl, rfl, rfl⟩
    have FIN : Hid (∀ W' : World, Below w.heap.size w W' → ∃ a1 c1 a2 c2, Ending.returned (.agg #[.int .i64 3, .int .i64 0, .slice none 0 0, .slice none 0 0]) = .returned (.agg #[.int .i64 (ssC s i x), .int .i64 (ssI s i x), .slice a1 (ssS s i x).length c1, .slice a2 (ssO s i x).length c2]) ∧ OwnN W' w.heap.size (.slice a1 (ssS s i x).length c1) (ssS s i x) ∧ OwnN W' w.heap.size (.slice a2 (ssO s i x).length c2) (ssO s i x) ∧ (∀ y z, a1 = some y → a2 = some z → y.block ≠ z.block) ∧ Below w.heap.size w W') := fun W' hb =>
      ⟨none, 0, none, 0, by rw [HC.out.1, HC.out.2.1, HC.out.2.2.1, HC.out.2.2.2]; rfl, by rw [HC.out.2.2.1]; exact World.ownsRow_nil _ _ _ _, by rw [HC.out.2.2.2]; exact World.ownsRow_nil _ _ _ _, (fun y z e => by cases e), hb⟩
    rw [hok] at e0
    clear hok HC
    have IS := fun u => isSeed_any s u
    have IN := fun u => isIndex_any i u
    have IX := fun u => isSum_any x u
    cases h1 : decide (0 ≤ s ∧ s ≤ 999) with
    | false =>
      simp only [h1] at IS
      clear h1 e0
      go_enter Tryz.func58, Tryz.ntmps58
      go_wp2_with fail
      refine (IS _).mono ?_
      rintro r u ⟨rfl, hu⟩; have hu2 := hu.symm; subst hu2; clear hu
      go_wp2
      refine bodyPost_ret (v := .agg #[.int .i64 3, .int .i64 0, .slice none 0 0, .slice none 0 0]) (by simp [results, Tryz.results58, go_sem]) rfl (FIN.out _ ?_)
      repeat (first | exact Below.refl _ _ | refine Below.alloc ?_ (by (try simp) <;> omega) _ | refine Below.setCell ?_ (by (try simp) <;> omega) _)
    | true =>
      simp only [h1] at IS
      cases h2 : decide (0 ≤ i ∧ i ≤ 7) with
      | false =>
        simp only [h2] at IN
        clear h1 h2 e0
        go_enter Tryz.func58, Tryz.ntmps58
        go_wp2_with fail
        refine (IS _).mono ?_
        rintro r u ⟨rfl, hu⟩; have hu2 := hu.symm; subst hu2; clear hu
        go_wp2_with fail
        refine (IN _).mono ?_
        rintro r u ⟨rfl, hu⟩; have hu2 := hu.symm; subst hu2; clear hu
        go_wp2
        refine bodyPost_ret (v := .agg #[.int .i64 3, .int .i64 0, .slice none 0 0, .slice none 0 0]) (by simp [results, Tryz.results58, go_sem]) rfl (FIN.out _ ?_)
        repeat (first | exact Below.refl _ _ | refine Below.alloc ?_ (by (try simp) <;> omega) _ | refine Below.setCell ?_ (by (try simp) <;> omega) _)
      | true =>
        simp only [h2] at IN
        cases h3 : decide (0 ≤ x ∧ x ≤ 65520) with
        | true => rw [h1, h2, h3] at e0; cases e0
        | false =>
          simp only [h3] at IX
          clear h1 h2 h3 e0
          go_enter Tryz.func58, Tryz.ntmps58
          go_wp2_with fail
          refine (IS _).mono ?_
          rintro r u ⟨rfl, hu⟩; have hu2 := hu.symm; subst hu2; clear hu
          go_wp2_with fail
          refine (IN _).mono ?_
          rintro r u ⟨rfl, hu⟩; have hu2 := hu.symm; subst hu2; clear hu
          go_wp2_with fail
          refine (IX _).mono ?_
          rintro r u ⟨rfl, hu⟩; have hu2 := hu.symm; subst hu2; clear hu
          go_wp2
          refine bodyPost_ret (v := .agg #[.int .i64 3, .int .i64 0, .slice none 0 0, .slice none 0 0]) (by simp [results, Tryz.results58, go_sem]) rfl (FIN.out _ ?_)
          repeat (first | exact Below.refl _ _ | refine Below.alloc ?_ (by (try simp) <;> omega) _ | refine Below.setCell ?_ (by (try simp) <;> omega) _)

end Go.Proofs.YtffidkoejlebeaaGreatDoor
