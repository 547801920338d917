/- Contracts of the program's chapter 8: bounds, sides, secrets and public numbers. -/
import Derived.Test.YtffidkoejlebeaaDoorKyD
import Derived.Test.YtffidkoejlebeaaDoorFrB
import Derived.Test.YtffidkoejlebeaaDoorGrowC
namespace Go.Proofs.YtffidkoejlebeaaDoor
open Go.ChangeShapes Go.WideShapes Go.ChangeAt Go.RowKit
set_option maxRecDepth 100000
set_option linter.unusedVariables false
set_option linter.unusedSimpArgs false

theorem isSeed_any (v : Int) (w : World) : Calls Tryd.prog 46 #[.int .i64 v] w fun r w' => r = .returned (.bool (decide (0 ≤ v ∧ v ≤ 999))) ∧ w' = w := by
  go_enter Tryd.func46, Tryd.ntmps46
  go_wp2_with fail
  refine (isFrom_any v 999 _).mono ?_
  rintro r u ⟨rfl, rfl⟩
  go_wp2
  go_ret
  exact ⟨ret_bool (by simp), rfl⟩
theorem isKeyCount_any (v : Int) (w : World) : Calls Tryd.prog 47 #[.int .i64 v] w fun r w' => r = .returned (.bool (decide (1 ≤ v ∧ v ≤ 8))) ∧ w' = w := by
  by_cases h : 1 ≤ v
  · go_enter Tryd.func47, Tryd.ntmps47
    go_wp2
    go_ret
    exact ⟨ret_bool (by simp [h]), rfl⟩
  · go_enter Tryd.func47, Tryd.ntmps47
    go_wp2
    go_ret
    exact ⟨ret_bool (by simp; omega), rfl⟩
theorem and_one_i64 (q : Int) (h0 : 0 ≤ q) (h1 : q ≤ 65520) : bits .and .i64 q 1 = q % 2 := by
  obtain ⟨n, rfl⟩ : ∃ n : Nat, q = n := ⟨q.toNat, by omega⟩
  have hx : n &&& 1 < 2 ^ 63 := Nat.and_lt_two_pow _ (by omega)
  have e1 : (BitVec.ofInt 64 (n : Int)).toNat = n := by rw [BitVec.ofInt_natCast, BitVec.toNat_ofNat]; exact Nat.mod_eq_of_lt (by omega)
  have e2 : (BitVec.ofInt 64 (1 : Int)).toNat = 1 := by rfl
  show IntKind.i64.wrap ((BitVec.ofInt 64 (n : Int) &&& BitVec.ofInt 64 (1 : Int)).toNat : Int) = _
  rw [BitVec.toNat_and, e1, e2, IntKind.wrap_i64, Nat.and_one_is_mod]
  omega
theorem div_bd {x : Int} (b : Nat) (hx : 0 ≤ x ∧ x ≤ 65520) : 0 ≤ x / 2 ^ b ∧ x / 2 ^ b ≤ 65520 := by
  have h2 : (0 : Int) < 2 ^ b := Int.pow_pos (by decide)
  exact ⟨Int.ediv_nonneg hx.1 (by omega), Int.le_trans (Int.ediv_le_self _ hx.1) hx.2⟩
theorem sideOf_any (x : Int) (b : Nat) (w : World) (hx : 0 ≤ x ∧ x ≤ 65520) (hb : b < 16) : Calls Tryd.prog 77 #[.int .i64 x, .int .i64 b] w fun r w' => r = .returned (.int .i64 (bitV x b)) ∧ w' = w := by
  have HB : Hid (bitV x b = x / 2 ^ b % 2) := rfl
  have hb' : (b : Int) < 16 := by omega
  have hq := div_bd b hx
  obtain ⟨Q, hQ⟩ : ∃ Q, x / 2 ^ b = Q := ⟨_, rfl⟩
  rw [hQ] at hq HB
  have ha := and_one_i64 Q hq.1 hq.2
  go_enter Tryd.func77, Tryd.ntmps77
  go_wp2
  go_ret
  exact ⟨ret_int HB.out.symm, rfl⟩
theorem otherSide_any (d : Int) (w : World) (h0 : 0 ≤ d) (h1 : d ≤ 1) : Calls Tryd.prog 79 #[.int .i64 d] w fun r w' => r = .returned (.int .i64 (1 - d)) ∧ w' = w := by
  have h2 : 0 ≤ 1 - d := by omega
  have h3 : 1 - d ≤ 1 := by omega
  have WD : IntKind.i64.wrap (1 - d) = 1 - d := by rw [IntKind.wrap_i64]; omega
  go_enter Tryd.func79, Tryd.ntmps79
  go_wp2
  go_ret
  exact ⟨rfl, rfl⟩

theorem fldK1 (x y : Int) (w : World) : (Instr.field 41 (.agg #[.int .i64 x, .int .i64 y]) 1).run Tryd.prog w = .ok (.int .i64 y) w := by kernel_rfl

set_option maxHeartbeats 1000000 in
theorem publicNumber_any (x : Int) (w : World) (hT : Tab w) (h0 : 0 ≤ x) (h1 : x ≤ 65535) : Calls Tryd.prog 107 #[.int .i64 x] w fun r w' => r = .returned (.int .i64 (opnV x)) ∧ Below w.heap.size w w' := by
  have H2 := has_two w (x := x / 256) (y := x % 256) 5 (by omega) (by omega)
  have HC : Hid (leafC (twoL x) = 0 ∧ leafV (twoL x) = opnV x) := by
    have : ¬ 250 < (twoL x).length := by simp [twoL]
    exact ⟨by unfold leafC; rw [if_neg this], by unfold leafV; rw [if_neg this]; rfl⟩
  have LS := implLeafSum_any (some ⟨w.heap.size, 0, none⟩) 2 (twoL x) _ (hT.alloc (.cells #[.int .u8 (x / 256), .int .u8 (x % 256)] 5)) H2
  rw [HC.out.1, HC.out.2] at LS
  generalize opnV x = y at *
  have F1 := fldK1
  clear H2 hT
  go_enter Tryd.func107, Tryd.ntmps107
  go_wp2_with fail
  refine (twoBytes_any x _ h0 h1).mono ?_
  rintro r u ⟨rfl, rfl⟩
  go_wp2_with fail
  refine LS.mono ?_
  rintro r u1 ⟨rfl, hb1⟩
  have B1 : Below w.heap.size w u1 := ((Below.refl _ _).alloc (Nat.le_refl _) _).trans (hb1.mono (by simp))
  go_wp2
  go_ret
  exact ⟨rfl, B1⟩

/-- What is summed for a secret of one side, by the program's bytes. -/
theorem secret_piece (s i b d : Int) (p q : Nat) : pieceL 3 [(some ⟨p, 0, none⟩, 2, [s / 256, s % 256]), (some ⟨q, 0, none⟩, 3, [i, b, d])] = secL s i b d := by simp [pieceL, secL]
theorem has_three (w : World) {x y z : Int} (T : Nat) (hx : 0 ≤ x ∧ x ≤ 255) (hy : 0 ≤ y ∧ y ≤ 255) (hz : 0 ≤ z ∧ z ≤ 255) : Has (w.alloc (.cells #[.int .u8 x, .int .u8 y, .int .u8 z] T)) .u8 (some ⟨w.heap.size, 0, none⟩) [x, y, z].length [x, y, z] := by
  refine ⟨rfl, ?_, .inr ⟨w.heap.size, 0, rfl, by simp, ?_⟩⟩
  · intro n hn
    simp at hn
    rcases hn with rfl | rfl | rfl
    · exact wf_u8 hx.1 hx.2
    · exact wf_u8 hy.1 hy.2
    · exact wf_u8 hz.1 hz.2
  · intro i hi
    match i, hi with
    | 0, _ => simp [go_sem]
    | 1, _ => simp [go_sem]
    | 2, _ => simp [go_sem]

set_option maxHeartbeats 2000000 in
/-- One secret, out of its bytes. -/
theorem secretPiece_any (s i b d : Int) (w : World) (hT : Tab w) (hs : 0 ≤ s ∧ s ≤ 999) (h2 : 0 ≤ i ∧ i ≤ 7) (hb : 0 ≤ b ∧ b ≤ 15) (hd : 0 ≤ d ∧ d ≤ 1) :
    Calls Tryd.prog 35 #[.int .i64 3, .slice (some ⟨w.heap.size + 2, 0, none⟩) 2 2] (((w.alloc (.cells #[.int .u8 (s / 256), .int .u8 (s % 256)] 5)).alloc (.cells #[.int .u8 i, .int .u8 b, .int .u8 d] 5)).alloc (.cells #[.slice (some ⟨w.heap.size, 0, none⟩) 2 2, .slice (some ⟨w.heap.size + 1, 0, none⟩) 3 3] 24)) fun r w' => ∃ a' c', r = .returned (.slice a' (secL s i b d).length c') ∧ Has w' .u8 a' (secL s i b d).length (secL s i b d) ∧ Below w.heap.size w w' := by
  have EE : Hid (_) := secret_piece s i b d w.heap.size (w.heap.size + 1)
  have WF := secL_wf hs h2 hb hd
  refine (pieceOf_any 3 (by decide) [(some ⟨w.heap.size, 0, none⟩, 2, [s / 256, s % 256]), (some ⟨w.heap.size + 1, 0, none⟩, 3, [i, b, d])] (w.heap.size + 2) _ (((hT.alloc _).alloc _).alloc _) (by simp) ?hc ?hh (by simp) (by rw [EE.out]; simp [secL])).mono ?_
  case hc =>
    intro i hi
    match i, hi with
    | 0, _ => simp [go_sem]
    | 1, _ => simp [go_sem]
  case hh =>
    intro k hk
    match k, hk with
    | 0, _ =>
      have hh0 := has_two w (x := s / 256) (y := s % 256) 5 (by omega) (by omega)
      exact (hh0.alloc _).alloc _
    | 1, _ =>
      have hh0 := has_three (w.alloc (.cells #[.int .u8 (s / 256), .int .u8 (s % 256)] 5)) (x := i) (y := b) (z := d) 5 (by omega) (by omega) (by omega)
      rw [World.size_alloc] at hh0
      exact hh0.alloc _
  rw [EE.out]
  rintro r u1 ⟨a', c', rfl, hown, hb1⟩
  exact ⟨a', c', rfl, has_of_own hown WF, (((Below.refl _ _).alloc (Nat.le_refl _) _).alloc (by simp) _ |>.alloc (by simp; omega) _).trans (hb1.mono (by simp; omega))⟩

/-- Both numbers of a bit, as far as they are laid. -/
def sdA (f : Nat → Int) (j : Nat) : Array Value := #[.int .i64 (if 0 < j then f 0 else 0), .int .i64 (if 1 < j then f 1 else 0)]
theorem sd_set (f : Nat → Int) {j : Nat} (hj : j < 2) : (sdA f j).setIfInBounds j (.int .i64 (f j)) = sdA f (j + 1) := by
  have : j = 0 ∨ j = 1 := by omega
  rcases this with rfl | rfl <;> simp [sdA]
theorem sd_new (f : Nat → Int) {j : Nat} (hj : j < 2) : (sdA f j)[j]? = some (.int .i64 0) := by
  have : j = 0 ∨ j = 1 := by omega
  rcases this with rfl | rfl <;> simp [sdA]

set_option maxHeartbeats 4000000 in
theorem secretsOf_any (s i b : Int) (w : World) (hT : Tab w) (hs : 0 ≤ s ∧ s ≤ 999) (h2 : 0 ≤ i ∧ i ≤ 7) (hb : 0 ≤ b ∧ b ≤ 15) :
    Calls Tryd.prog 76 #[.int .i64 s, .int .i64 i, .int .i64 b] w fun r w' => r = .returned (.agg #[.int .i64 (secV s i b 0), .int .i64 (secV s i b 1)]) ∧ Below w.heap.size w w' := by
  obtain ⟨W0, hW0⟩ : ∃ W0, W0 = (w.alloc (.cells #[.int .i64 0, .int .i64 0] 110)).alloc (.cells #[.int .i64 0, .int .i64 0] 110) := ⟨_, rfl⟩
  have zW0 : W0.heap.size = w.heap.size + 2 := by rw [hW0]; simp
  have B0 : Below w.heap.size w W0 := by rw [hW0]; exact ((Below.refl _ _).alloc (Nat.le_refl _) _).alloc (by simp) _
  have R0 : Blk W0 w.heap.size #[.int .i64 0, .int .i64 0] 110 := by rw [hW0]; exact (Blk.new w _ _).below ((Below.refl _ _).alloc (Nat.le_refl _) _) (by simp)
  have V0 : Blk W0 (w.heap.size + 1) (sdA (fun d => secV s i b d) 0) 110 := by
    have := Blk.new (w.alloc (.cells #[.int .i64 0, .int .i64 0] 110)) #[.int .i64 0, .int .i64 0] 110
    rw [World.size_alloc] at this
    rw [hW0]; exact this
  have F1 := fldK1
  go_enter Tryd.func76, Tryd.ntmps76
  go_wp2
  simp only [← hW0]
  clear hW0
  obtain ⟨V, hV⟩ : ∃ V, V = w.heap.size + 1 := ⟨_, rfl⟩
  rw [← hV] at V0
  simp only [← hV]
  have hVB : V < W0.heap.size := by omega
  have WV : Hid (V = w.heap.size + 1) := hV
  clear hV
  have TT : Hid (∀ u : World, Below w.heap.size w u → Tab u) := fun u hu => hT.below hu (Nat.le_refl _)
  have SP : Hid (∀ (j : Nat) (u : World), j < 2 → Below w.heap.size w u → Calls Tryd.prog 35 #[.int .i64 3, .slice (some ⟨u.heap.size + 2, 0, none⟩) 2 2] (((u.alloc (.cells #[.int .u8 (s / 256), .int .u8 (s % 256)] 5)).alloc (.cells #[.int .u8 i, .int .u8 b, .int .u8 j] 5)).alloc (.cells #[.slice (some ⟨u.heap.size, 0, none⟩) 2 2, .slice (some ⟨u.heap.size + 1, 0, none⟩) 3 3] 24)) fun r w' => ∃ a' c', r = .returned (.slice a' (secL s i b j).length c') ∧ Has w' .u8 a' (secL s i b j).length (secL s i b j) ∧ Below u.heap.size u w') := fun j u hj hu => secretPiece_any s i b j u (TT.out u hu) hs h2 hb (by omega)
  have SO : Hid (∀ (j : Nat) (a : Option Addr) (c : Nat) (u : World), Has u .u8 a (secL s i b j).length (secL s i b j) → Calls Tryd.prog 99 #[.slice a (secL s i b j).length c] u fun r w' => r = .returned (.agg #[.int .i64 0, .int .i64 (secV s i b j)]) ∧ Below u.heap.size u w') := fun j a c u hu => by
    have h := implSumOf_any a c _ u hu (by simp [secL])
    rw [show sumC (secL s i b j) = 0 by unfold sumC; rw [if_neg (by simp [secL])], show sumV (secL s i b j) = secV s i b j by unfold sumV; rw [if_neg (by simp [secL])]; rfl] at h
    exact h
  have LL : Hid (∀ j : Nat, (secL s i b j).length = 6) := fun j => rfl
  obtain ⟨f, hf⟩ : ∃ f : Nat → Int, f = fun d : Nat => secV s i b d := ⟨_, rfl⟩
  rw [← hf] at V0
  have HF : Hid (∀ j : Nat, secV s i b j = f j) := fun j => by rw [hf]
  have H01 : Hid (secV s i b 0 = f 0 ∧ secV s i b 1 = f 1) := by show _ ∧ _; rw [hf]; exact ⟨rfl, rfl⟩
  clear hf hT
  go_loopw [9] (fun c wr => ∃ j : Nat, j ≤ 2 ∧ c = .int .i64 j ∧ Blk wr V (sdA f j) 110 ∧ Fr (fun k => k = V) W0 wr) (fun c _ => 2 - (intOf c).toNat)
  case atStart => exact ⟨0, by omega, rfl, V0, Fr.refl _ _⟩
  case round =>
    clear V0
    obtain ⟨j, hj, rfl, hN, hfr⟩ := hrel
    have B1 : Below w.heap.size w wr := B0.trans (hfr.below (fun k e => by have := WV.out; omega) B0.size)
    by_cases hlt : j < 2
    · have hlt' : (j : Int) < 2 := by omega
      have wi : IntKind.u8.wrap i = i := by rw [IntKind.wrap_u8]; omega
      have wb : IntKind.u8.wrap b = b := by rw [IntKind.wrap_u8]; omega
      have wj : IntKind.u8.wrap (j : Int) = j := by rw [IntKind.wrap_u8]; omega
      have SPj := SP.out j wr hlt B1
      have SOj := SO.out j
      have HFj := HF.out j
      rw [HFj] at SOj
      have Sn := sd_new f hlt
      have St : Hid (_) := sd_set f hlt
      generalize secL s i b j = zs at *
      have SPh : Hid (_) := SPj
      clear SPj HFj
      have hVr := hN.lt
      go_wp2_with fail
      refine (twoBytes_any s _ hs.1 (by omega)).mono ?_
      rintro r u ⟨rfl, rfl⟩
      go_wp2_with fail
      refine Calls.mono (P := Tryd.prog) (f := 35) SPh.out ?_
      rintro r u1 ⟨a1, c1, rfl, H1, hb1⟩
      have N1 := hN.below hb1 hVr
      have f1 : Fr (fun k => k = V) W0 u1 := hfr.trans (M' := fun _ => False) (.of_below hb1 (Nat.le_refl _)) (fun _ _ e => e.elim)
      clear hb1 hN
      go_wp2_with fail
      refine (SOj a1 c1 _ H1).mono ?_
      rintro r u2 ⟨rfl, hb2⟩
      have N2 := N1.below hb2 N1.lt
      have f2 : Fr (fun k => k = V) W0 u2 := f1.trans (M' := fun _ => False) (.of_below hb2 (Nat.le_refl _)) (fun _ _ e => e.elim)
      have k0 : u2.cell? ⟨V, j, none⟩ = some (.int .i64 0) := (N2.cell j).trans Sn
      have g0 := N2.frozen j
      have N3 := N2.set j (.int .i64 (f j))
      rw [St.out] at N3
      have f3 : Fr (fun k => k = V) W0 (u2.setCell ⟨V, j, none⟩ (.int .i64 (f j))) := f2.setCell _ _ rfl
      clear hb2 H1 N1 f1 Sn
      go_wp2
      go_roundw
      case rel => exact ⟨j + 1, by omega, by go_num, N3, f3⟩
      case measure => simp [intOf]; omega
    · obtain rfl : j = 2 := by omega
      clear hlt
      have v0 : wr.cell? ⟨V, 0, none⟩ = some (.int .i64 (f 0)) := (hN.cell 0).trans rfl
      have v1 : wr.cell? ⟨V, 1, none⟩ = some (.int .i64 (f 1)) := (hN.cell 1).trans rfl
      have r0 := R0.fr hfr (show ¬ w.heap.size = V by have := WV.out; omega)
      have q0 : wr.cell? ⟨w.heap.size, 0, none⟩ = some (.int .i64 0) := (r0.cell 0).trans rfl
      have q1 : wr.cell? ⟨w.heap.size, 1, none⟩ = some (.int .i64 0) := (r0.cell 1).trans rfl
      have f0 := r0.frozen 0
      have f1 := r0.frozen 1
      clear r0 SP SO HF hN hfr R0
      go_wp2
      refine bodyPost_ret (v := .agg #[.int .i64 (f 0), .int .i64 (f 1)]) (by simp [results, Tryd.results76, go_sem, q0, q1]) rfl ⟨by rw [H01.out.1, H01.out.2], ?_⟩
      exact (B1.setCell (Nat.le_refl _) _).setCell (Nat.le_refl _) _

theorem idxS0 (x y : Int) (w : World) : (Instr.index 110 (.agg #[.int .i64 x, .int .i64 y]) (.int .i64 0)).run Tryd.prog w = .ok (.int .i64 x) w := by kernel_rfl
theorem idxS1 (x y : Int) (w : World) : (Instr.index 110 (.agg #[.int .i64 x, .int .i64 y]) (.int .i64 1)).run Tryd.prog w = .ok (.int .i64 y) w := by kernel_rfl
theorem idxS (g : Nat → Int) {j : Nat} (hj : j < 2) (w : World) : (Instr.index 110 (.agg #[.int .i64 (g 0), .int .i64 (g 1)]) (.int .i64 j)).run Tryd.prog w = .ok (.int .i64 (g j)) w := by
  have : j = 0 ∨ j = 1 := by omega
  rcases this with rfl | rfl
  · exact idxS0 _ _ w
  · exact idxS1 _ _ w
/-- Both numbers of a bit, the first ones turned. -/
def tuA (f g : Nat → Int) (j : Nat) : Array Value := #[.int .i64 (if 0 < j then f 0 else g 0), .int .i64 (if 1 < j then f 1 else g 1)]
theorem tu_set (f g : Nat → Int) {j : Nat} (hj : j < 2) : (tuA f g j).setIfInBounds j (.int .i64 (f j)) = tuA f g (j + 1) := by
  have : j = 0 ∨ j = 1 := by omega
  rcases this with rfl | rfl <;> simp [tuA]
theorem tu_new (f g : Nat → Int) {j : Nat} (hj : j < 2) : (tuA f g j)[j]? = some (.int .i64 (g j)) := by
  have : j = 0 ∨ j = 1 := by omega
  rcases this with rfl | rfl <;> simp [tuA]

set_option maxHeartbeats 4000000 in
theorem sidesPublic_any (x y : Int) (w : World) (hT : Tab w) (hx : 0 ≤ x ∧ x ≤ 65520) (hy : 0 ≤ y ∧ y ≤ 65520) :
    Calls Tryd.prog 78 #[.agg #[.int .i64 x, .int .i64 y]] w fun r w' => r = .returned (.agg #[.int .i64 (opnV x), .int .i64 (opnV y)]) ∧ Below w.heap.size w w' := by
  obtain ⟨g, hg⟩ : ∃ g : Nat → Int, g = fun j => if j = 0 then x else y := ⟨_, rfl⟩
  obtain ⟨f, hf⟩ : ∃ f : Nat → Int, f = fun j => opnV (g j) := ⟨_, rfl⟩
  have hg0 : g 0 = x := by rw [hg]; rfl
  have hg1 : g 1 = y := by rw [hg]; rfl
  have HR : Hid (opnV x = f 0 ∧ opnV y = f 1) := by show _ ∧ _; rw [hf]; simp only; rw [hg0, hg1]; exact ⟨rfl, rfl⟩
  have HF : Hid (∀ j, opnV (g j) = f j) := fun j => by rw [hf]
  have BD : Hid (∀ j, 0 ≤ g j ∧ g j ≤ 65520) := fun j => by rw [hg]; simp only; split <;> assumption
  rw [← hg0, ← hg1] at *
  obtain ⟨W0, hW0⟩ : ∃ W0, W0 = (w.alloc (.cells #[.int .i64 (g 0), .int .i64 (g 1)] 110)).alloc (.cells #[.int .i64 0, .int .i64 0] 110) := ⟨_, rfl⟩
  have zW0 : W0.heap.size = w.heap.size + 2 := by rw [hW0]; simp
  have B0 : Below w.heap.size w W0 := by rw [hW0]; exact ((Below.refl _ _).alloc (Nat.le_refl _) _).alloc (by simp) _
  have V0 : Blk W0 w.heap.size (tuA f g 0) 110 := by rw [hW0]; exact (Blk.new w _ _).below ((Below.refl _ _).alloc (Nat.le_refl _) _) (by simp)
  have R0 : Blk W0 (w.heap.size + 1) #[.int .i64 0, .int .i64 0] 110 := by
    have := Blk.new (w.alloc (.cells #[.int .i64 (g 0), .int .i64 (g 1)] 110)) #[.int .i64 0, .int .i64 0] 110
    rw [World.size_alloc] at this
    rw [hW0]; exact this
  have IX : Hid (∀ (j : Nat) (w : World), j < 2 → (Instr.index 110 (.agg #[.int .i64 (g 0), .int .i64 (g 1)]) (.int .i64 j)).run Tryd.prog w = .ok (.int .i64 (g j)) w) := fun j w h => idxS g h w
  have PN : Hid (∀ (j : Nat) (u : World), Below w.heap.size w u → Calls Tryd.prog 107 #[.int .i64 (g j)] u fun r w' => r = .returned (.int .i64 (f j)) ∧ Below u.heap.size u w') := fun j u hu => by
    have := publicNumber_any (g j) u (hT.below hu (Nat.le_refl _)) (BD.out j).1 (by have := (BD.out j).2; omega)
    rw [HF.out] at this
    exact this
  clear hg hf hg0 hg1 HF BD hT hx hy
  go_enter Tryd.func78, Tryd.ntmps78
  go_wp2
  simp only [← hW0]
  clear hW0
  obtain ⟨V, hV⟩ : ∃ V, V = w.heap.size := ⟨_, rfl⟩
  rw [← hV] at V0 R0
  simp only [← hV]
  have hVB : V < W0.heap.size := by omega
  have WV : Hid (V = w.heap.size) := hV
  clear hV
  go_loopw [6] (fun c wr => ∃ j : Nat, j ≤ 2 ∧ c = .int .i64 j ∧ Blk wr V (tuA f g j) 110 ∧ Fr (fun k => k = V) W0 wr) (fun c _ => 2 - (intOf c).toNat)
  case atStart => exact ⟨0, by omega, rfl, V0, Fr.refl _ _⟩
  case round =>
    clear V0
    obtain ⟨j, hj, rfl, hN, hfr⟩ := hrel
    have B1 : Below w.heap.size w wr := B0.trans (hfr.below (fun k e => by have := WV.out; omega) B0.size)
    by_cases hlt : j < 2
    · have hlt' : (j : Int) < 2 := by omega
      have PNj := PN.out j wr B1
      have IXj := fun w => IX.out j w hlt
      have Sn := tu_new f g hlt
      have St : Hid (_) := tu_set f g hlt
      have hVr := hN.lt
      go_wp2_with fail
      refine PNj.mono ?_
      rintro r u2 ⟨rfl, hb2⟩
      have N2 := hN.below hb2 hVr
      have f2 : Fr (fun k => k = V) W0 u2 := hfr.trans (M' := fun _ => False) (.of_below hb2 (Nat.le_refl _)) (fun _ _ e => e.elim)
      have k0 : u2.cell? ⟨V, j, none⟩ = some (.int .i64 (g j)) := (N2.cell j).trans Sn
      have g0 := N2.frozen j
      have N3 := N2.set j (.int .i64 (f j))
      rw [St.out] at N3
      have f3 : Fr (fun k => k = V) W0 (u2.setCell ⟨V, j, none⟩ (.int .i64 (f j))) := f2.setCell _ _ rfl
      clear hb2 Sn hN PNj
      go_wp2
      go_roundw
      case rel => exact ⟨j + 1, by omega, by go_num, N3, f3⟩
      case measure => simp [intOf]; omega
    · obtain rfl : j = 2 := by omega
      clear hlt
      have v0 : wr.cell? ⟨V, 0, none⟩ = some (.int .i64 (f 0)) := (hN.cell 0).trans rfl
      have v1 : wr.cell? ⟨V, 1, none⟩ = some (.int .i64 (f 1)) := (hN.cell 1).trans rfl
      have r0 := R0.fr hfr (show ¬ V + 1 = V by omega)
      have q0 : wr.cell? ⟨V + 1, 0, none⟩ = some (.int .i64 0) := (r0.cell 0).trans rfl
      have q1 : wr.cell? ⟨V + 1, 1, none⟩ = some (.int .i64 0) := (r0.cell 1).trans rfl
      have f0 := r0.frozen 0
      have f1 := r0.frozen 1
      clear r0 PN IX hN hfr R0
      go_wp2
      refine bodyPost_ret (v := .agg #[.int .i64 (f 0), .int .i64 (f 1)]) (by simp [results, Tryd.results78, go_sem, q0, q1]) rfl ⟨by rw [HR.out.1, HR.out.2], ?_⟩
      exact (B1.setCell (by have := WV.out; show _ ≤ V + 1; omega) _).setCell (by have := WV.out; show _ ≤ V + 1; omega) _

end Go.Proofs.YtffidkoejlebeaaDoor
