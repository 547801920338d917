/- Contracts of the program's chapter 3: an event as bytes. -/
import Derived.Test.YtngibnmcagogaaaDoorPackE
import Derived.Test.YtngibnmcagogaaaDoorIEvt
import Derived.Test.YtngibnmcagogaaaDoorIPut
import Derived.Laws.CopyOwn
namespace Go.Proofs.YtngibnmcagogaaaDoor
open Go.ChangeShapes Go.WideShapes Go.ChangeAt Go.RowKit
set_option maxRecDepth 100000
set_option linter.unusedVariables false
set_option linter.unusedSimpArgs false

/-- A row of N bytes that begins with P, nothing yet behind it. -/
def fillP (P : List Int) (N : Nat) : List Int := P ++ List.replicate (N - P.length) 0
theorem fillP_len (P : List Int) (N : Nat) (h : P.length ≤ N) : (fillP P N).length = N := by simp [fillP]; omega
theorem fillP_set (P : List Int) (N : Nat) (y : Int) (h : P.length < N) : ((fillP P N).map (Value.int .u8)).set P.length (.int .u8 y) = (fillP (P ++ [y]) N).map (.int .u8) := by
  rw [← List.map_set]
  congr 1
  unfold fillP
  rw [List.set_append_right _ _ (Nat.le_refl _), Nat.sub_self, List.append_assoc]
  congr 1
  obtain ⟨m, hm⟩ : ∃ m, N - P.length = m + 1 := ⟨N - P.length - 1, by omega⟩
  have : N - (P ++ [y]).length = m := by simp; omega
  rw [hm, this, List.replicate_succ]
  rfl
theorem fillP_splice (P cs : List Int) (N : Nat) (h : P.length + cs.length ≤ N) : splice ((fillP P N).map (Value.int .u8)) P.length (cs.map (.int .u8)) = (fillP (P ++ cs) N).map (.int .u8) := by
  unfold splice
  rw [← List.map_take, ← List.map_drop, List.length_map, ← List.map_append, ← List.map_append]
  congr 1
  unfold fillP
  rw [List.take_append_of_le_length (Nat.le_refl _), List.take_length, List.append_assoc]
  congr 2
  rw [List.drop_append, List.drop_of_length_le (by omega), List.nil_append, List.drop_replicate]
  congr 1
  simp
  omega
theorem fillP_cell (P : List Int) (N j : Nat) (h0 : P.length ≤ j) (h1 : j < N) : ((fillP P N).map (Value.int .u8))[j]? = some (.int .u8 0) := by
  unfold fillP
  rw [List.getElem?_map, List.getElem?_append_right h0, List.getElem?_replicate, if_pos (by omega)]
  rfl
theorem fillP_all (P : List Int) : fillP P P.length = P := by simp [fillP]
theorem own_heap {w : World} {base e g n : Nat} {xs : List Value} (h : w.ownsRow base e 1 (.slice (some ⟨g, 0, none⟩) n n) n xs) : w.heap[g]? = some (.cells xs.toArray e (0, 0)) := by
  rcases h.2 with ⟨e1, _⟩ | ⟨g', cap, cur, e1, _, hg, _, _, hs, ht⟩
  · simp at e1
  · simp at e1
    obtain ⟨rfl, rfl⟩ := e1
    rw [hg, ← ht, List.take_of_length_le (by simp; omega)]
theorem heap_own {w : World} {base e g n : Nat} {xs : List Value} (h : w.heap[g]? = some (.cells xs.toArray e (0, 0))) (hb : base ≤ g) (hl : xs.length = n) (hm : n ≤ maxLen) : w.ownsRow base e 1 (.slice (some ⟨g, 0, none⟩) n n) n xs :=
  ⟨by omega, .inr ⟨g, n, xs.toArray, rfl, hb, h, Nat.le_refl _, hm, by simp; omega, by simp [← hl]⟩⟩
theorem made_fill (N : Nat) : (madeCells (Value.int .u8 0).cells (N * 1)).toList = (fillP [] N).map (.int .u8) := by
  have := partB_zero (List.replicate N 0)
  simp at this
  rw [show N * 1 = N by omega]
  simpa [fillP, partB] using this

theorem fld_bytes (y : Int) (a : Option Addr) (n c : Nat) (w : World) : (Instr.field 30 (.agg #[.int .i64 y, .slice a n c]) 1).run Tryd.prog w = .ok (.slice a n c) w := by kernel_rfl
theorem src_of {w : World} {k : IntKind} {a : Option Addr} {zs : List Int} (h : Has w k a zs.length zs) (h0 : 0 < zs.length) : ∃ ad, a = some ad ∧ ∀ (j : Nat) (v : Value), (zs.map (.int k))[j]? = some v → w.cell? (ad.add j) = some v := by
  cases a with
  | none =>
    rcases h.2.2 with c | ⟨_, _, c, _⟩
    · omega
    · cases c
  | some ad => exact ⟨ad, rfl, h.news⟩

set_option maxHeartbeats 4000000 in
theorem implPackEvent_ok (s v k x : Int) (a : Option Addr) (c : Nat) (zs : List Int) (w : World) (hz : Has w .u8 a zs.length zs) (x0 : -9223372036854775808 ≤ x) (x1 : x ≤ 9223372036854775807) (hf : evF s v k x zs.length = 0) :
    Calls Tryd.prog 42 #[.agg #[.int .i64 s, .int .i64 v, .int .i64 k, .int .i64 x, .slice a zs.length c]] w fun r w' => ∃ a' c', r = .returned (.agg #[.int .i64 0, .slice a' (packL s v k x zs).length c']) ∧ w'.ownsRow w.heap.size 5 1 (.slice a' (packL s v k x zs).length c') (packL s v k x zs).length ((packL s v k x zs).map (.int .u8)) ∧ Below w.heap.size w w' := by
  obtain ⟨hs, hv, hk, hn, hcx⟩ := evF_zero hf
  clear hcx
  rw [packL_len]
  obtain ⟨i0, hi, hz0, hz1, hz2⟩ := info_parts info8
  obtain ⟨N, hN⟩ : ∃ N, N = 13 + zs.length := ⟨_, rfl⟩
  rw [← hN]
  have HN : Hid (N = 13 + zs.length) := hN
  have n1 : (1 : Int) ≤ (N : Int) := by omega
  have n4 : (4 : Int) ≤ (N : Int) := by omega
  have n13 : (13 : Int) ≤ (N : Int) := by omega
  have n0 : (0 : Int) < (N : Int) := by omega
  have n3 : (3 : Int) < (N : Int) := by omega
  have n12 : (12 : Int) < (N : Int) := by omega
  have e1 : ¬ N = 1 := by omega
  have e4 : ¬ N = 4 := by omega
  have n25 : N ≤ 25 := by omega
  have n13' : 13 ≤ N := by omega
  have hNI : (N : Int) = 13 + (zs.length : Int) := by omega
  have HNI : Hid ((N : Int) = 13 + (zs.length : Int)) := hNI
  clear hN hNI
  have PZ : Hid (_) := made_fill (N)
  have ws : IntKind.u8.wrap s = s := wrap_u8 hs.1 (by omega)
  have wk : IntKind.u8.wrap k = k := wrap_u8 hk.1 (by omega)
  have wz : IntKind.u8.wrap (zs.length : Int) = (zs.length : Int) := wrap_u8 (by omega) (by omega)
  have hpos : (0 : Int) ≤ (N : Int) := by omega
  go_enter Tryd.func42, Tryd.ntmps42
  go_wp2_with fail
  refine (implEventFault_any s v k x a zs.length c _ x0 x1 (by omega)).mono ?_
  rintro r u1 ⟨rfl, hb1⟩
  rw [hf]
  have z1 := hb1.size
  simp at z1
  have KS : Hid (∀ wx : World, Below u1.heap.size u1 wx → wx.cell? ⟨w.heap.size, 0, none⟩ = some (.int .i64 s) ∧ wx.cell? ⟨w.heap.size, 1, none⟩ = some (.int .i64 v) ∧ wx.cell? ⟨w.heap.size, 2, none⟩ = some (.int .i64 k) ∧ wx.cell? ⟨w.heap.size, 3, none⟩ = some (.int .i64 x) ∧ wx.cell? ⟨w.heap.size, 4, none⟩ = some (.slice a zs.length c) ∧ Below u1.heap.size u1 wx) := fun wx h => by
    have h2 := hb1.trans (h.mono (by simp; omega))
    refine ⟨?_, ?_, ?_, ?_, ?_, h⟩
    all_goals (refine (h2.cell (by show w.heap.size < _; simp; omega)).trans ?_; simp [go_sem])
  obtain ⟨_, _, _, _, c4, _⟩ := KS.out _ (Below.refl _ _)
  have ZZ : Hid (∀ wx : World, Below u1.heap.size u1 wx → Has wx .u8 a zs.length zs) := fun wx h => (((hz.alloc _).alloc _).below hb1 (Nat.le_refl _)).below h (Nat.le_refl _)
  have FB : Hid (∀ wx : World, Below u1.heap.size u1 wx → Below w.heap.size w wx) := fun wx h => (((Below.refl _ _).alloc (Nat.le_refl _) _).alloc (by simp) _).trans ((hb1.trans (h.mono (by simp; omega))).mono (by simp; omega))
  have RS : Hid (∀ wx : World, Below u1.heap.size u1 wx → wx.cell? ⟨w.heap.size + 1, 0, none⟩ = some (.int .i64 0) ∧ wx.cell? ⟨w.heap.size + 1, 1, none⟩ = some (.slice none 0 0) ∧ wx.frozen? ⟨w.heap.size + 1, 0, none⟩ = false ∧ wx.frozen? ⟨w.heap.size + 1, 1, none⟩ = false) := fun wx h => by
    have h2 := hb1.trans (h.mono (by simp; omega))
    refine ⟨?_, ?_, ?_, ?_⟩
    all_goals (first | (refine (h2.cell (by show w.heap.size + 1 < _; simp)).trans ?_; simp [go_sem]) | (refine (h2.frozen (by show w.heap.size + 1 < _; simp)).trans ?_; simp [go_sem]))
  clear hb1
  go_wp2_with (at_make; refine wpList_make_full _ rfl _ _ 22 rfl u1.heap.size 5 i0 (.int .u8 0) 1 Tryd.underlying22 hi hz0 hz1 _ _ _ _ (N) rfl rfl HNI.out.symm HNI.out.symm (by rw [hz2]; omega) (by unfold maxLen; omega) (Nat.le_refl _) ?_; intro u2 hown hgrow; rw [PZ.out] at hown; have B2 : Below u1.heap.size u1 u2 := (Below.refl _ _).grown hgrow (Nat.le_refl _) (by intro k hk; cases hk); obtain ⟨c0, c1, c2, c3, c5, _⟩ := KS.out _ B2; have y0 : u2.cell? ⟨u1.heap.size, 0, none⟩ = some (.int .u8 0) := (hown.cellAt 0 (by omega)).trans (fillP_cell [] _ 0 (by simp) (by omega)); have f0 := hown.frozenAt 0; clear hgrow)
  have O3 : World.ownsRow (u2.setCell ⟨u1.heap.size, 0, none⟩ (.int .u8 s)) u1.heap.size 5 1 (.slice (some ⟨u1.heap.size, 0, none⟩) N N) N ((fillP ([s]) N).map (.int .u8)) := by
    have h := (hown.stored 0 (.int .u8 s)).1
    rw [show (0 : Nat) = ([] : List Int).length from rfl, fillP_set [] _ s (by simp; omega)] at h
    exact h
  have B3 := B2.setCell (p := ⟨u1.heap.size, 0, none⟩) (Nat.le_refl _) (.int .u8 s)
  generalize u2.setCell ⟨u1.heap.size, 0, none⟩ (.int .u8 s) = u3 at O3 B3 ⊢
  clear hown c0 c1 c2 c3 c5 y0 f0 B2
  obtain ⟨_, c1, _, _, _, _⟩ := KS.out _ B3
  have H3 : Hid (u3.heap[u1.heap.size]? = _) := own_heap O3
  have DB : Hid (Below u1.heap.size u1 (u3.drew.alloc (.cells #[.int .u8 (v / 256), .int .u8 (v % 256)] 5))) := B3.drew.alloc (show u1.heap.size ≤ u3.heap.size from B3.size) _
  have TW : Hid (Has (u3.drew.alloc (.cells #[.int .u8 (v / 256), .int .u8 (v % 256)] 5)) .u8 (some ⟨u3.heap.size, 0, none⟩) [v / 256, v % 256].length [v / 256, v % 256]) := has_two u3.drew 5 (x := v / 256) (y := v % 256) ⟨by omega, by omega⟩ ⟨by omega, by omega⟩
  have z3 := B3.size
  have hsz : (Tryd.prog.info? 5).map (·.size) = some 1 := by rw [hi]; simp [hz1]
  have HA : Hid ((u3.drew.alloc (.cells #[.int .u8 (v / 256), .int .u8 (v % 256)] 5)).heap[u1.heap.size]? = some (.cells ((fillP [s] (N)).map (.int .u8)).toArray 5 (0, 0))) := (Below.heap_alloc _ _ _ (show u1.heap.size < u3.heap.size from (Array.getElem?_eq_some_iff.1 H3.out).1)).trans H3.out
  go_region_held3 (fun wx => wx.cell? ⟨w.heap.size, 0, none⟩ = some (.int .i64 s) ∧ wx.cell? ⟨w.heap.size, 1, none⟩ = some (.int .i64 v) ∧ wx.cell? ⟨w.heap.size, 2, none⟩ = some (.int .i64 k) ∧ wx.cell? ⟨w.heap.size, 3, none⟩ = some (.int .i64 x) ∧ wx.cell? ⟨w.heap.size, 4, none⟩ = some (.slice a zs.length c) ∧ Below u1.heap.size u1 wx)
    ((refine KS.out _ ?_; (repeat (first | assumption | (refine Below.alloc ?_ (by (try simp) <;> omega) _) | (refine Below.drew ?_) | exact Below.refl _ _))))
    (first | ((go_at_call 65; refine (twoBytes_any v _ hv.1 (by omega)).mono ?_; rintro r u4 ⟨rfl, rfl⟩)) | ((refine step_copy_splice (by rfl) _ _ _ _ (by rfl) 5 Tryd.underlying22 hsz _ _ _ _ _ _ (by rfl) (by rfl) u1.heap.size 1 ((fillP [s] (N)).map (.int .u8)) 5 HA.out (([v / 256, v % 256] : List Int).map (.int .u8)) (by simp [Nat.min_def]; omega) (fun _ => ⟨rfl, _, rfl, TW.out.news⟩) (by rw [List.length_map, List.length_map, fillP_len _ _ (by simp; omega)]; simp; omega) (by intro u hu; simp at hu; rcases hu with rfl | rfl <;> rfl) u1.heap.size u1 DB.out (Nat.le_refl _) ?_; intro u5 H5 B5)))
  have O5 : World.ownsRow (u5) u1.heap.size 5 1 (.slice (some ⟨u1.heap.size, 0, none⟩) N N) N ((fillP ([s] ++ [v / 256, v % 256]) N).map (.int .u8)) := by
    refine heap_own (H5.out.trans ?_) (Nat.le_refl _) (by rw [List.length_map, fillP_len _ _ (by simp; omega)]) (by unfold maxLen; omega)
    rw [show (1 : Nat) = ([s] : List Int).length from rfl, fillP_splice [s] [v / 256, v % 256] N (by simp; omega)]
  clear H5 HA TW DB H3 O3 B3 c1
  obtain ⟨c0, c1, c2, c3, c5, _⟩ := KS.out _ B5
  have y0 : u5.cell? ⟨u1.heap.size, 3, none⟩ = some (.int .u8 0) := (O5.cellAt 3 (by omega)).trans (fillP_cell _ _ 3 (by simp) (by omega))
  have f0 := O5.frozenAt 3
  have O6 : World.ownsRow (u5.setCell ⟨u1.heap.size, 3, none⟩ (.int .u8 k)) u1.heap.size 5 1 (.slice (some ⟨u1.heap.size, 0, none⟩) N N) N ((fillP ([s] ++ [v / 256, v % 256] ++ [k]) N).map (.int .u8)) := by
    have h := (O5.stored 3 (.int .u8 k)).1
    rw [show (3 : Nat) = ([s] ++ [v / 256, v % 256] : List Int).length from rfl, fillP_set _ _ k (by simp; omega)] at h
    exact h
  have B6 := B5.setCell (p := ⟨u1.heap.size, 3, none⟩) (Nat.le_refl _) (.int .u8 k)
  have OH6 : Hid (_ ∧ _) := O6
  clear O6 O5
  go_wp2_with fail
  have O6 : World.ownsRow (u5.setCell ⟨u1.heap.size, 3, none⟩ (.int .u8 k)) u1.heap.size 5 1 (.slice (some ⟨u1.heap.size, 0, none⟩) N N) N ((fillP ([s] ++ [v / 256, v % 256] ++ [k]) N).map (.int .u8)) := OH6.out
  clear OH6 c0 c1 c2 c3 c5 y0 f0 B5
  generalize u5.setCell ⟨u1.heap.size, 3, none⟩ (.int .u8 k) = u6 at O6 B6 ⊢
  obtain ⟨_, _, _, c3, _, _⟩ := KS.out _ B6
  have H6 : Hid (u6.heap[u1.heap.size]? = _) := own_heap O6
  have z6 := B6.size
  have L6 : u1.heap.size < u6.heap.size := (Array.getElem?_eq_some_iff.1 H6.out).1
  have B6d : Below u1.heap.size u1 u6.drew := B6.drew
  have hfl := fld_bytes
  have HP : Hid (∀ n ∈ putL x 8, (Lit.int .u8 n).wf = true) := putL_wf x 8
  clear O6
  go_region_held3 (fun wx => wx.cell? ⟨w.heap.size, 0, none⟩ = some (.int .i64 s) ∧ wx.cell? ⟨w.heap.size, 1, none⟩ = some (.int .i64 v) ∧ wx.cell? ⟨w.heap.size, 2, none⟩ = some (.int .i64 k) ∧ wx.cell? ⟨w.heap.size, 3, none⟩ = some (.int .i64 x) ∧ wx.cell? ⟨w.heap.size, 4, none⟩ = some (.slice a zs.length c) ∧ Below u1.heap.size u1 wx)
    ((refine KS.out _ ?_; (repeat (first | assumption | (refine Below.alloc ?_ (by (try simp) <;> omega) _) | (refine Below.drew ?_) | exact Below.refl _ _))))
    (first | ((go_at_call 44; refine (implPutInt_any x _ x0 x1).mono ?_; rintro r u7 ⟨a7, c7, rfl, O7, hb7⟩; have B7 : Below u1.heap.size u1 u7 := B6d.trans (hb7.mono B6d.size); have P7 := has_of_own O7 HP.out; have H7 : Hid (u7.heap[u1.heap.size]? = some (.cells ((fillP ([s] ++ [v / 256, v % 256] ++ [k]) N).map (.int .u8)).toArray 5 (0, 0))) := (hb7.block _ L6).trans H6.out)) | ((refine step_copy_splice (by rfl) _ _ _ _ (by rfl) 5 Tryd.underlying22 hsz _ _ _ _ _ _ (by rfl) (by rfl) u1.heap.size 4 ((fillP ([s] ++ [v / 256, v % 256] ++ [k]) N).map (.int .u8)) 5 H7.out ((putL x 8).map (.int .u8)) (by rw [List.length_map, putL_len]; simp [Nat.min_def]; omega) (fun _ => ⟨rfl, src_of P7 (by rw [putL_len]; omega)⟩) (by rw [List.length_map, List.length_map, putL_len, fillP_len _ _ (by simp; omega)]; omega) (by intro u hu; simp at hu; obtain ⟨n, _, rfl⟩ := hu; rfl) u1.heap.size u1 B7 (Nat.le_refl _) ?_; intro u8 H8 B8)))
  have O8 : World.ownsRow (u8) u1.heap.size 5 1 (.slice (some ⟨u1.heap.size, 0, none⟩) N N) N ((fillP ([s] ++ [v / 256, v % 256] ++ [k] ++ putL x 8) N).map (.int .u8)) := by
    refine heap_own (H8.out.trans ?_) (Nat.le_refl _) (by rw [List.length_map, fillP_len _ _ (by simp [putL_len]; omega)]) (by unfold maxLen; omega)
    rw [show (4 : Nat) = ([s] ++ [v / 256, v % 256] ++ [k] : List Int).length from rfl, fillP_splice _ (putL x 8) N (by simp [putL_len]; omega)]
  have l8 : ([s] ++ [v / 256, v % 256] ++ [k] ++ putL x 8 : List Int).length = 12 := by simp [putL_len]
  have W8 : Hid (([s] ++ [v / 256, v % 256] ++ [k] ++ putL x 8 : List Int).length = 12) := l8
  generalize hX : ([s] ++ [v / 256, v % 256] ++ [k] ++ putL x 8 : List Int) = X at O8 W8
  have HX : Hid (([s] ++ [v / 256, v % 256] ++ [k] ++ putL x 8 : List Int) = X) := hX
  clear H8 H7 H6 B6d B6 B7 P7 O7 hb7 c3 hfl L6 HP l8 hX
  obtain ⟨c0, c1, c2, c3, c5, _⟩ := KS.out _ B8
  have y0 : u8.cell? ⟨u1.heap.size, 12, none⟩ = some (.int .u8 0) := (O8.cellAt 12 (by omega)).trans (fillP_cell _ _ 12 (by rw [W8.out]; omega) (by omega))
  have f0 := O8.frozenAt 12
  have OH9 : Hid (World.ownsRow (u8.setCell ⟨u1.heap.size, 12, none⟩ (.int .u8 zs.length)) u1.heap.size 5 1 (.slice (some ⟨u1.heap.size, 0, none⟩) N N) N ((fillP (X ++ [(zs.length : Int)]) N).map (.int .u8))) := by
    show World.ownsRow _ _ _ _ _ _ _
    have h := (O8.stored 12 (.int .u8 zs.length)).1
    rw [show (12 : Nat) = X.length from W8.out.symm, fillP_set _ _ (zs.length : Int) (by rw [W8.out]; omega)] at h
    rw [W8.out] at h
    exact h
  have B9 := B8.setCell (p := ⟨u1.heap.size, 12, none⟩) (Nat.le_refl _) (.int .u8 zs.length)
  clear O8
  go_wp2_with fail
  have O9 : World.ownsRow (u8.setCell ⟨u1.heap.size, 12, none⟩ (.int .u8 zs.length)) u1.heap.size 5 1 (.slice (some ⟨u1.heap.size, 0, none⟩) N N) N ((fillP (X ++ [(zs.length : Int)]) N).map (.int .u8)) := OH9.out
  clear OH9 c0 c1 c2 c3 c5 y0 f0 B8
  generalize u8.setCell ⟨u1.heap.size, 12, none⟩ (.int .u8 zs.length) = u9 at O9 B9 ⊢
  obtain ⟨_, _, _, _, c5, _⟩ := KS.out _ B9
  have H9 : Hid (u9.heap[u1.heap.size]? = _) := own_heap O9
  have z9 := B9.size
  have L9 : u1.heap.size < u9.heap.size := (Array.getElem?_eq_some_iff.1 H9.out).1
  have B9d : Below u1.heap.size u1 u9.drew := B9.drew
  have H9d : Hid (u9.drew.heap[u1.heap.size]? = some (.cells ((fillP (X ++ [(zs.length : Int)]) N).map (.int .u8)).toArray 5 (0, 0))) := H9.out
  have Z9 := ZZ.out _ B9d
  clear O9
  have FIN : Hid (∀ u10 : World, Hid (u10.heap[u1.heap.size]? = some (.cells (splice ((fillP (X ++ [(zs.length : Int)]) N).map (.int .u8)) 13 (zs.map (.int .u8))).toArray 5 (0, 0))) → World.ownsRow (u10) u1.heap.size 5 1 (.slice (some ⟨u1.heap.size, 0, none⟩) N N) N ((fillP (packL s v k x zs) N).map (.int .u8))) := by
    intro u10 H10
    refine heap_own (H10.out.trans ?_) (Nat.le_refl _) (by rw [List.length_map, fillP_len _ _ (by rw [packL_len, ← HN.out]; omega)]) (by unfold maxLen; omega)
    rw [show (13 : Nat) = (X ++ [(zs.length : Int)]).length by simp [W8.out], fillP_splice _ zs N (by simp [W8.out]; have := HN.out; omega)]
    rw [← HX.out]
    rfl
  by_cases hz0' : zs.length = 0
  · have e13 : N = 13 := by have := HN.out; omega
    subst e13
    go_region_held3 (fun wx => wx.cell? ⟨w.heap.size, 0, none⟩ = some (.int .i64 s) ∧ wx.cell? ⟨w.heap.size, 1, none⟩ = some (.int .i64 v) ∧ wx.cell? ⟨w.heap.size, 2, none⟩ = some (.int .i64 k) ∧ wx.cell? ⟨w.heap.size, 3, none⟩ = some (.int .i64 x) ∧ wx.cell? ⟨w.heap.size, 4, none⟩ = some (.slice a zs.length c) ∧ Below u1.heap.size u1 wx)
      ((refine KS.out _ ?_; (repeat (first | assumption | (refine Below.alloc ?_ (by (try simp) <;> omega) _) | (refine Below.drew ?_) | exact Below.refl _ _))))
      (first | ((refine step_copy_splice (by rfl) _ _ _ _ (by rfl) 5 Tryd.underlying22 hsz _ _ _ _ _ _ (by rfl) (by rfl) u1.heap.size 13 ((fillP (X ++ [(zs.length : Int)]) 13).map (.int .u8)) 5 H9d.out (zs.map (.int .u8)) (by simp [hz0']) (fun h => absurd h (by simp [hz0'])) (by rw [List.length_map, List.length_map, fillP_len _ _ (by simp [W8.out])]; omega) (by intro u hu; simp at hu; obtain ⟨n, _, rfl⟩ := hu; rfl) u1.heap.size u1 B9d (Nat.le_refl _) ?_; intro u10 H10 B10)))
    have O10 := FIN.out _ H10
    have Z10 := FB.out _ B10
    obtain ⟨r0, r1, g0, g1⟩ := RS.out _ B10
    have OO : Hid (_ ∧ _) := O10
    clear O10
    go_wp2
    refine bodyPost_ret (v := .agg #[.int .i64 0, .slice (some ⟨u1.heap.size, 0, none⟩) 13 13]) (by simp [results, Tryd.results42, go_sem, r0, r1]) rfl ⟨_, _, rfl, ?_, ?_⟩
    · have O10 : World.ownsRow (u10) u1.heap.size 5 1 (.slice (some ⟨u1.heap.size, 0, none⟩) 13 13) 13 ((fillP (packL s v k x zs) 13).map (.int .u8)) := OO.out
      have hpl : fillP (packL s v k x zs) 13 = packL s v k x zs := by
        have h := fillP_all (packL s v k x zs)
        rw [packL_len, ← HN.out] at h
        exact h
      rw [hpl] at O10
      exact own_mono (own_set (own_set O10 (by omega) _) (by omega) _) (by omega)
    · exact Below.setCell (Below.setCell Z10 (by simp) _) (by simp) _
  · have e13 : ¬ N = 13 := by have := HN.out; omega
    go_region_held3 (fun wx => wx.cell? ⟨w.heap.size, 0, none⟩ = some (.int .i64 s) ∧ wx.cell? ⟨w.heap.size, 1, none⟩ = some (.int .i64 v) ∧ wx.cell? ⟨w.heap.size, 2, none⟩ = some (.int .i64 k) ∧ wx.cell? ⟨w.heap.size, 3, none⟩ = some (.int .i64 x) ∧ wx.cell? ⟨w.heap.size, 4, none⟩ = some (.slice a zs.length c) ∧ Below u1.heap.size u1 wx)
      ((refine KS.out _ ?_; (repeat (first | assumption | (refine Below.alloc ?_ (by (try simp) <;> omega) _) | (refine Below.drew ?_) | exact Below.refl _ _))))
      (first | ((refine step_copy_splice (by rfl) _ _ _ _ (by rfl) 5 Tryd.underlying22 hsz _ _ _ _ _ _ (by rfl) (by rfl) u1.heap.size 13 ((fillP (X ++ [(zs.length : Int)]) N).map (.int .u8)) 5 H9d.out (zs.map (.int .u8)) (by rw [List.length_map]; have := HN.out; simp [Nat.min_def]; omega) (fun _ => ⟨rfl, src_of Z9 (by omega)⟩) (by rw [List.length_map, List.length_map, fillP_len _ _ (by simp [W8.out]; omega)]; have := HN.out; omega) (by intro u hu; simp at hu; obtain ⟨n, _, rfl⟩ := hu; rfl) u1.heap.size u1 B9d (Nat.le_refl _) ?_; intro u10 H10 B10)))
    have O10 := FIN.out _ H10
    have Z10 := FB.out _ B10
    obtain ⟨r0, r1, g0, g1⟩ := RS.out _ B10
    have OO : Hid (_ ∧ _) := O10
    clear O10
    go_wp2
    refine bodyPost_ret (v := .agg #[.int .i64 0, .slice (some ⟨u1.heap.size, 0, none⟩) N N]) (by simp [results, Tryd.results42, go_sem, r0, r1]) rfl ⟨_, _, rfl, ?_, ?_⟩
    · have O10 : World.ownsRow (u10) u1.heap.size 5 1 (.slice (some ⟨u1.heap.size, 0, none⟩) N N) N ((fillP (packL s v k x zs) N).map (.int .u8)) := OO.out
      have hpl : fillP (packL s v k x zs) N = packL s v k x zs := by
        have h := fillP_all (packL s v k x zs)
        rw [packL_len, ← HN.out] at h
        exact h
      rw [hpl] at O10
      exact own_mono (own_set (own_set O10 (by omega) _) (by omega) _) (by omega)
    · exact Below.setCell (Below.setCell Z10 (by simp) _) (by simp) _

set_option maxHeartbeats 2000000 in
theorem implPackEvent_any (s v k x : Int) (a : Option Addr) (c : Nat) (zs : List Int) (w : World) (hz : Has w .u8 a zs.length zs) (x0 : -9223372036854775808 ≤ x) (x1 : x ≤ 9223372036854775807) (hn : zs.length ≤ 9223372036854775807) :
    Calls Tryd.prog 42 #[.agg #[.int .i64 s, .int .i64 v, .int .i64 k, .int .i64 x, .slice a zs.length c]] w fun r w' => ∃ a' c', r = .returned (.agg #[.int .i64 (evF s v k x zs.length), .slice a' (packB s v k x zs).length c']) ∧ w'.ownsRow w.heap.size 5 1 (.slice a' (packB s v k x zs).length c') (packB s v k x zs).length ((packB s v k x zs).map (.int .u8)) ∧ Below w.heap.size w w' := by
  by_cases hf : evF s v k x zs.length = 0
  · have hp : packB s v k x zs = packL s v k x zs := by unfold packB; rw [if_pos hf]
    rw [hp, hf]
    exact implPackEvent_ok s v k x a c zs w hz x0 x1 hf
  · have hp : packB s v k x zs = [] := by unfold packB; rw [if_neg hf]
    rw [hp]
    have hf' : (evF s v k x zs.length != 0) = true := by simpa using hf
    go_enter Tryd.func42, Tryd.ntmps42
    go_wp2_with fail
    refine (implEventFault_any s v k x a zs.length c _ x0 x1 hn).mono ?_
    rintro r u1 ⟨rfl, hb1⟩
    have hz1 := hb1.size
    simp at hz1
    obtain ⟨hc1, hf1⟩ := bcell hb1
    go_wp2
    refine bodyPost_ret (v := .agg #[.int .i64 (evF s v k x zs.length), .slice none 0 0]) (by simp [results, Tryd.results42, go_sem, hc1]) rfl ⟨none, 0, rfl, nil_own _ _ _, ?_⟩
    refine Below.setCell (Below.setCell ?_ (by simp) _) (by simp) _
    exact (((Below.refl _ _).alloc (Nat.le_refl _) _).alloc (by simp) _).trans (hb1.mono (by (try simp) <;> omega))

end Go.Proofs.YtngibnmcagogaaaDoor
