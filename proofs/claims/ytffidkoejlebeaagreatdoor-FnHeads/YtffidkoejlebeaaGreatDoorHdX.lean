/- Contracts: the model's draw of bytes that may tell a head. -/
import Derived.Test.YtffidkoejlebeaaGreatDoorHdW
import Derived.Test.YtffidkoejlebeaaGreatDoorHdP
namespace Go.Proofs.YtffidkoejlebeaaGreatDoor
open Go.ChangeShapes Go.WideShapes Go.ChangeAt Go.RowKit
set_option maxRecDepth 100000
set_option linter.unusedVariables false
set_option linter.unusedSimpArgs false

theorem hx_set {xs : List Int} {i : Nat} {y : Int} (h : ∀ n ∈ xs, (Lit.int .u8 n).wf = true) (hy : (Lit.int .u8 y).wf = true) : ∀ n ∈ xs.set i y, (Lit.int .u8 n).wf = true := by
  intro n hn
  rcases List.mem_or_eq_of_mem_set hn with c | c
  · exact h n c
  · rw [c]; exact hy

theorem hx_form {w : World} {base e n : Nat} {v : Value} {xs : List Value} (h : w.ownsRow base e 1 v n xs) (hn : 0 < n) : ∃ g c, v = .slice (some ⟨g, 0, none⟩) n c ∧ base ≤ g ∧ g < w.heap.size ∧ n ≤ c ∧ c ≤ maxLen := by
  rcases h.2 with ⟨_, h0⟩ | ⟨g, cap, cur, hv, hb, hg, h1, h2, _⟩
  · omega
  · exact ⟨g, cap, hv, hb, (Array.getElem?_eq_some_iff.1 hg).1, h1, h2⟩

theorem hx_app {P : Program} {ops : Array Oper} {rest : List Oper} {o : Oper} {a : Act} {w : World} {Q : Exit → Act → World → Prop} (hgd : o.guard = none) (s x : Operand) (t : TypeId)
    (ho : o.op = .call { callee := .builtin .append, args := #[s, x], argTypes := #[t, t] }) (base e : TypeId) (i : TypeInfo) (ht : P.underlying t = some (.slice e)) (hi : P.info? e = some i) (hz : i.zero = some (.int .u8 0)) (hsize : i.size = 1) (hby : i.bytes = 1)
    (g n cap : Nat) (xs : List Value) (hs : a.eval s = .slice (some ⟨g, 0, none⟩) n cap) (hown : w.ownsRow base e 1 (.slice (some ⟨g, 0, none⟩) n cap) n xs) (a2 : Option Addr) (c : Nat) (zs : List Int) (hx : a.eval x = .slice a2 zs.length c) (hz2 : Has w .u8 a2 zs.length zs) (hn : n ≤ 2097152) (hm : zs.length ≤ 2097152) (hbase : base ≤ w.heap.size)
    (h : ∀ g' cap' w', w'.ownsRow base e 1 (.slice (some ⟨g', 0, none⟩) (n + zs.length) cap') (n + zs.length) (xs ++ zs.map (.int .u8)) → w.grownBy w' (some g) → (g' = g ∨ g' = w.heap.size) → g' < w'.heap.size → wpList P ops Q rest (a.put o.dst (.slice (some ⟨g', 0, none⟩) (n + zs.length) cap')) w') : wpList P ops Q (o :: rest) a w := by
  refine wpList_plain hgd fun K hK => ?_
  obtain ⟨g', cap', w', hr, h2, h3, h4, h5⟩ := run_app w t o.type base e i ht hi hz hsize hby g n cap xs hown a2 c zs hz2 hn hm hbase
  unfold Oper.wp execOp
  simp only [ho, resolve, invoke, builtin, Sem.run_bind, Sem.run_pure, Result.andThen_ok, List.map_toArray, List.map_cons, List.map_nil, hs, hx, hr]
  exact hK _ _ (h g' cap' w' h2 h3 h4 h5)

set_option maxHeartbeats 4000000 in
theorem drawReadHead_any (w : World) (a : Option Addr) (len cap : Nat) (zs : List Int) (h : Has w .u8 a len zs) (hl : len ≤ 1048576) :
    Calls Tryz.prog 5 #[.slice a len cap] w fun e w' => ∃ (g c' : Nat) (ys : List Int), e = .returned (.slice (some ⟨g, 0, none⟩) ys.length c') ∧ ys.length ≤ 8 ∧ ys.length ≤ c' ∧ c' ≤ maxLen ∧ Has w' .u8 (some ⟨g, 0, none⟩) ys.length ys ∧ Below w.heap.size w w' := by
  obtain ⟨i0, hi, hz0, hz1, hz2⟩ := info_parts info8
  go_enter Tryz.func5, Tryz.ntmps5
  go_wp2_with fail
  refine (source_any _ a len cap zs h hl).mono ?_
  rintro e u1 ⟨rfl, S1, hb1, hz1'⟩
  go_wp2_with fail
  refine (l9Draw_any _ _ _ a len cap zs 0 S1 (by omega)).mono ?_
  rintro e u2 ⟨z, r, m, k, rfl, za, zb, ra, rb, ma, mb, ka, kb, S2, Y2⟩
  have z2 := Y2.size
  have M2 := after_source hb1 Y2
  clear S1 hb1 Y2
  have hB : hdB z r m k = true := hdB_iff.2 (by omega)
  go_wp2_with fail
  refine (l9Pack_any _ z r m k _ (HdAt.of_blk (Blk.new u2 _ 26)) hB).mono ?_
  rintro e u3 ⟨a3, c3, rfl, O3, hb3⟩
  have z3 := hb3.size
  simp at z3
  have hb3' : Below u2.heap.size u2 u3 := ((Below.refl _ _).alloc (Nat.le_refl _) _).trans (hb3.mono (by simp))
  have S3 := S2.below hb3'
  have M3 := M2.trans (hb3'.mono (by omega))
  have PW : Hid (∀ y ∈ hdL z r m k, (Lit.int .u8 y).wf = true) := hdL_wf hB
  have PL := hdL_len z r m k
  obtain ⟨g3, c3', e3, g3b, g3l, g3c, g3m⟩ := hx_form O3 (by omega)
  simp at e3
  obtain ⟨rfl, rfl⟩ := e3
  have hg3 : w.heap.size < g3 := by simp at g3b; omega
  have O3' := own_mono (base' := w.heap.size + 1) O3 (by simp; omega)
  generalize hdL z r m k = pk at PW PL O3' g3c
  have O3h : Hid (World.ownsRow u3 (w.heap.size + 1) 5 1 (.slice (some ⟨g3, 0, none⟩) 7 c3) 7 (pk.map (.int .u8))) := by rw [PL] at O3'; exact O3'
  have PLH : Hid (pk.length = 7) := PL
  rw [PL] at g3c
  try rw [PL]
  clear PL S2 M2 hb3 hb3' O3 O3'
  go_wp2_with fail
  refine (next_any _ _ _ a len cap zs _ 5 S3 (by omega) (by omega) (by omega)).mono ?_
  rintro e u7 ⟨k7, rfl, k70, k71, S7, Y7⟩
  have z7 := Y7.size
  have O7 : Hid (World.ownsRow u7 (w.heap.size + 1) 5 1 (.slice (some ⟨g3, 0, none⟩) 7 c3) 7 (pk.map (.int .u8))) := own_only O3h.out Y7 (by omega)
  have B7 := M3.trans (Y7.below (Nat.le_refl _) (by omega))
  clear S3 O3h M3 Y7
  by_cases q0 : k7 = 0
  · have q0b : (k7 == 0) = true := by simpa using q0
    clear q0
    go_wp2_with fail
    refine (next_any _ _ _ a len cap zs _ 7 S7 (by omega) (by omega) (by omega)).mono ?_
    rintro e u8 ⟨k8, rfl, k80, k81, S8, Y8⟩
    have z8 := Y8.size
    have O8 : Hid (World.ownsRow u8 (w.heap.size + 1) 5 1 (.slice (some ⟨g3, 0, none⟩) 7 c3) 7 (pk.map (.int .u8))) := own_only O7.out Y8 (by omega)
    have B8 := B7.trans (Y8.below (Nat.le_refl _) (by omega))
    obtain ⟨j, rfl⟩ : ∃ j : Nat, k8 = (j : Int) := ⟨k8.toNat, by omega⟩
    have hj : j < 7 := by omega
    have PH : Hid (∀ i, i < ([255, 4, 25] : List Int).length → (u8.alloc (.cells #[.int .i64 255, .int .i64 4, .int .i64 25] 2)).cell? ⟨u8.heap.size, i, none⟩ = some (.int .i64 (([255, 4, 25] : List Int).getD i 0))) := cells_lit u8 [255, 4, 25] 2 _ rfl
    clear S7 O7 B7 Y8
    go_wp2_with fail
    refine (pick_any _ _ _ a len cap zs _ (S8.alloc _) (by omega) u8.heap.size [255, 4, 25] 3 rfl (by simp) (by omega) (by omega) (by omega) 3 PH.out).mono ?_
    rintro e u9 ⟨y, rfl, hy, S9, Y9⟩
    have hy' : 0 ≤ y ∧ y ≤ 255 := by simp at hy; omega
    have wy : IntKind.u8.wrap y = y := by simp [IntKind.wrap, IntKind.bits, IntKind.signed]; omega
    have Y9' : Only w.heap.size u8 u9 := ((Only.refl _ u8).alloc _).trans Y9
    have z9 := Y9'.size
    have O9 := own_only O8.out Y9' (by omega)
    have B9 := B8.trans (Y9'.below (Nat.le_refl _) (by omega))
    have y0 : u9.cell? ⟨g3, j, none⟩ = some (.int .u8 (pk.getD j 0)) := (O9.cellAt j hj).trans (by have := PLH.out; simp [List.getD, show j < pk.length by omega])
    have f0 := O9.frozenAt j
    have OS := (O9.stored j (.int .u8 y)).1
    rw [← List.map_set] at OS
    have OSH : Hid (World.ownsRow (u9.setCell ⟨g3, j, none⟩ (.int .u8 y)) (w.heap.size + 1) 5 1 (.slice (some ⟨g3, 0, none⟩) 7 c3) 7 ((pk.set j y).map (.int .u8))) := OS
    clear S8 O8 B8 Y9 PH hy S9 O9 OS
    go_wp2
    go_ret
    have hsl : (pk.set j y).length = 7 := by simp; exact PLH.out
    refine ⟨g3, c3, pk.set j y, by rw [hsl]; rfl, by omega, by omega, g3m, ?_, B9.setCell (by show w.heap.size ≤ g3; omega) _⟩
    have := has_of_own OSH.out (hx_set PW.out (wf_u8 hy'.1 hy'.2))
    exact this
  · have q0b : (k7 == 0) = false := by simpa using q0
    clear q0
    by_cases q1 : k7 = 1
    · have q1b : (k7 == 1) = true := by simpa using q1
      clear q1
      have P5 : Has (u7.alloc (.cells #[.int .u8 1] 5)) .u8 (some ⟨u7.heap.size, 0, none⟩) [1].length [1] := al_one1 (n := 0) (X := u7) ((Below.refl 0 u7).alloc (Nat.zero_le _) _) (by omega)
      have O5 : Hid (World.ownsRow (u7.alloc (.cells #[.int .u8 1] 5)) (w.heap.size + 1) 5 1 (.slice (some ⟨g3, 0, none⟩) 7 c3) 7 (pk.map (.int .u8))) := own_below O7.out ((Below.refl u7.heap.size u7).alloc (Nat.le_refl _) _)
      have hu5 : w.heap.size + 1 ≤ (u7.alloc (.cells #[.int .u8 1] 5)).heap.size := by simp; omega
      have B5 : Below w.heap.size w (u7.alloc (.cells #[.int .u8 1] 5)) := B7.alloc (by omega) _
      go_wp2_with (at_builtin; refine hx_app rfl _ _ _ rfl (w.heap.size + 1) 5 i0 Tryz.underlying22 hi hz0 hz1 hz2 g3 7 c3 (pk.map (.int .u8)) rfl O5.out _ 1 [1] rfl P5 (by omega) (by simp) hu5 ?_; intro g6 c6 u6 O6 hgr6 hat6 hlt6)
      go_ret
      have hl9 : (pk ++ [1]).length = 8 := by have := PLH.out; simp; omega
      have hc6 : 8 ≤ c6 ∧ c6 ≤ maxLen := by
        obtain ⟨_, c', e1, _, _, h1, h2⟩ := hx_form O6 (by simp)
        simp at e1
        rw [e1.2]
        exact ⟨h1, h2⟩
      refine ⟨g6, c6, pk ++ [1], by rw [hl9]; rfl, by omega, by omega, hc6.2, ?_, ?_⟩
      · refine has_of_own (e := 5) (base := w.heap.size + 1) (c := c6) (n := (pk ++ [1]).length) ?_ ?_
        · rw [hl9, List.map_append]; exact O6
        · intro n hn
          rcases List.mem_append.1 hn with c | c
          · exact PW.out n c
          · simp at c; rw [c]; rfl
      · exact B5.grown hgr6 (by simp; omega) (by intro q hq; cases hq; omega)
    · have q1b : (k7 == 1) = false := by simpa using q1
      clear q1
      have P7 := has_of_own O7.out PW.out
      go_wp2
      go_ret
      exact ⟨g3, c3, pk, by rw [PLH.out]; rfl, by have := PLH.out; omega, by have := PLH.out; omega, g3m, P7, B7⟩

end Go.Proofs.YtffidkoejlebeaaGreatDoor
