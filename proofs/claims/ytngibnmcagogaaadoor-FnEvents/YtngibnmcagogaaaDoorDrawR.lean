/- Contracts: the model's draw of bytes that may tell an event. -/
import Derived.Test.YtngibnmcagogaaaDoorDraws3
import Derived.Test.YtngibnmcagogaaaDoorRdBase
namespace Go.Proofs.YtngibnmcagogaaaDoor
open Go.ChangeShapes Go.WideShapes Go.ChangeAt Go.RowKit
set_option maxRecDepth 100000
set_option linter.unusedVariables false
set_option linter.unusedSimpArgs false

theorem set_wf {xs : List Int} {i : Nat} {y : Int} (h : ∀ n ∈ xs, (Lit.int .u8 n).wf = true) (hy : (Lit.int .u8 y).wf = true) : ∀ n ∈ xs.set i y, (Lit.int .u8 n).wf = true := by
  intro n hn
  rcases List.mem_or_eq_of_mem_set hn with c | c
  · exact h n c
  · rw [c]; exact hy
theorem own_form {w : World} {base e n : Nat} {v : Value} {xs : List Value} (h : w.ownsRow base e 1 v n xs) (hn : 0 < n) : ∃ g c, v = .slice (some ⟨g, 0, none⟩) n c ∧ base ≤ g ∧ g < w.heap.size ∧ n ≤ c ∧ c ≤ maxLen := by
  rcases h.2 with ⟨_, h0⟩ | ⟨g, cap, cur, hv, hb, hg, h1, h2, _⟩
  · omega
  · exact ⟨g, cap, hv, hb, (Array.getElem?_eq_some_iff.1 hg).1, h1, h2⟩

theorem wpList_app {P : Program} {ops : Array Oper} {rest : List Oper} {o : Oper} {a : Act} {w : World} {Q : Exit → Act → World → Prop} (hgd : o.guard = none) (s x : Operand) (t : TypeId)
    (ho : o.op = .call { callee := .builtin .append, args := #[s, x], argTypes := #[t, t] }) (base e : TypeId) (i : TypeInfo) (ht : P.underlying t = some (.slice e)) (hi : P.info? e = some i) (hz : i.zero = some (.int .u8 0)) (hsize : i.size = 1) (hby : i.bytes = 1)
    (g n cap : Nat) (xs : List Value) (hs : a.eval s = .slice (some ⟨g, 0, none⟩) n cap) (hown : w.ownsRow base e 1 (.slice (some ⟨g, 0, none⟩) n cap) n xs) (a2 : Option Addr) (c : Nat) (zs : List Int) (hx : a.eval x = .slice a2 zs.length c) (hz2 : Has w .u8 a2 zs.length zs) (hn : n ≤ 2097152) (hm : zs.length ≤ 2097152) (hbase : base ≤ w.heap.size)
    (h : ∀ g' cap' w', w'.ownsRow base e 1 (.slice (some ⟨g', 0, none⟩) (n + zs.length) cap') (n + zs.length) (xs ++ zs.map (.int .u8)) → w.grownBy w' (some g) → (g' = g ∨ g' = w.heap.size) → g' < w'.heap.size → wpList P ops Q rest (a.put o.dst (.slice (some ⟨g', 0, none⟩) (n + zs.length) cap')) w') : wpList P ops Q (o :: rest) a w := by
  refine wpList_plain hgd fun K hK => ?_
  obtain ⟨g', cap', w', hr, h2, h3, h4, h5⟩ := run_app w t o.type base e i ht hi hz hsize hby g n cap xs hown a2 c zs hz2 hn hm hbase
  unfold Oper.wp execOp
  simp only [ho, resolve, invoke, builtin, Sem.run_bind, Sem.run_pure, Result.andThen_ok, List.map_toArray, List.map_cons, List.map_nil, hs, hx, hr]
  exact hK _ _ (h g' cap' w' h2 h3 h4 h5)

set_option maxHeartbeats 2000000 in
theorem drawReadEvent_any (w : World) (a : Option Addr) (len cap : Nat) (zs : List Int) (h : Has w .u8 a len zs) (hl : len ≤ 1048576) :
    Calls Tryd.prog 37 #[.slice a len cap] w fun e w' => ∃ (g c' : Nat) (ys : List Int), e = .returned (.slice (some ⟨g, 0, none⟩) ys.length c') ∧ ys.length ≤ 30 ∧ ys.length ≤ c' ∧ c' ≤ maxLen ∧ Has w' .u8 (some ⟨g, 0, none⟩) ys.length ys ∧ Below w.heap.size w w' := by
  obtain ⟨i0, hi, hz0, hz1, hz2⟩ := info_parts info8
  go_enter Tryd.func37, Tryd.ntmps37
  go_wp2_with fail
  refine (source_any _ a len cap zs h hl).mono ?_
  rintro e u1 ⟨rfl, S1, hb1, hz1'⟩
  go_wp2_with fail
  refine (l3Draw_any _ _ _ a len cap zs 0 S1 (by omega)).mono ?_
  rintro e u2 ⟨es, ev, ek, ex, a2, c2, ns, t', rfl, hs, hv, hk, hxb, hnl, O2, nw, S2, ht', Y2⟩
  have z2 := Y2.size
  have P2 := has_of_own O2 nw
  have NW : Hid (∀ y ∈ ns, (Lit.int .u8 y).wf = true) := nw
  have M2 := after_source hb1 Y2
  clear S1 O2 nw hb1 Y2
  go_wp2_with fail
  refine (l3Pack_any _ es ev ek ex a2 c2 ns _ (EvAt.new u2 es ev ek ex a2 ns.length c2 46) (P2.alloc _) hs.1 hs.2 hv.1 (by omega) hk.1 (by omega) hxb.1 hxb.2 (by omega)).mono ?_
  rintro e u3 ⟨a3, c3, rfl, O3, hb3⟩
  have z3 := hb3.size
  simp at z3
  have hb3' : Below u2.heap.size u2 u3 := ((Below.refl _ _).alloc (Nat.le_refl _) _).trans (hb3.mono (by simp))
  have S3 := S2.below hb3'
  have M3 := M2.trans (hb3'.mono (by omega))
  have PW : Hid (∀ y ∈ packL es ev ek ex ns, (Lit.int .u8 y).wf = true) := by
    intro n hn
    unfold packL at hn
    simp only [List.mem_append, List.mem_cons, List.not_mem_nil, or_false] at hn
    rcases hn with (((h | h) | h) | h) | h
    · rcases h with rfl | rfl | rfl <;> exact wf_u8 (by omega) (by omega)
    · subst h; exact wf_u8 (by omega) (by omega)
    · exact putL_wf ex 8 n h
    · subst h; exact wf_u8 (by omega) (by omega)
    · exact NW.out n h
  have PL := packL_len es ev ek ex ns
  obtain ⟨g3, c3', e3, g3b, g3l, g3c, g3m⟩ := own_form O3 (by omega)
  simp at e3
  obtain ⟨rfl, rfl⟩ := e3
  have hg3 : w.heap.size < g3 := by simp at g3b; omega
  have O3' : Hid (World.ownsRow u3 (w.heap.size + 1) 5 1 (.slice (some ⟨g3, 0, none⟩) (13 + ns.length) c3) (13 + ns.length) ((packL es ev ek ex ns).map (.int .u8))) := own_mono O3 (by simp; omega)
  generalize packL es ev ek ex ns = pk at PW PL O3'
  have PLH : Hid (pk.length = 13 + ns.length) := PL
  clear PL S2 M2 hb3 hb3' O3 P2
  go_wp2_with fail
  refine (next_any _ _ _ a len cap zs _ 3 S3 (by omega) (by omega) (by omega)).mono ?_
  rintro e u4 ⟨k4, rfl, k40, k41, S4, Y4⟩
  have z4 := Y4.size
  have O4 : Hid (World.ownsRow u4 (w.heap.size + 1) 5 1 (.slice (some ⟨g3, 0, none⟩) (13 + ns.length) c3) (13 + ns.length) (pk.map (.int .u8))) := own_only O3'.out Y4 (by omega)
  have M4 := M3.trans (Y4.below (Nat.le_refl _) (by omega))
  obtain ⟨m, rfl⟩ : ∃ m : Nat, k4 = (m : Int) := ⟨k4.toNat, by omega⟩
  clear S3 O3' M3 Y4
  go_wp2_with fail
  refine (some_any _ _ _ a len cap zs _ m S4 (by omega) (by omega)).mono ?_
  rintro e u5 ⟨a5, c5, ms, rfl, hml, O5, mw, S5, Y5⟩
  subst hml
  have z5 := Y5.size
  have O45 : Hid (World.ownsRow u5 (w.heap.size + 1) 5 1 (.slice (some ⟨g3, 0, none⟩) (13 + ns.length) c3) (13 + ns.length) (pk.map (.int .u8))) := own_only O4.out Y5 (by omega)
  have M5 := M4.trans (Y5.below (Nat.le_refl _) (by omega))
  have P5 := has_of_own O5 mw
  have MW : Hid (∀ y ∈ ms, (Lit.int .u8 y).wf = true) := mw
  have hu5 : w.heap.size + 1 ≤ u5.heap.size := by omega
  have hn13 : 13 + ns.length ≤ 2097152 := by omega
  have hm13 : ms.length ≤ 2097152 := by omega
  have PLH2 := PLH.out
  go_wp2_with (at_builtin; refine wpList_app rfl _ _ _ rfl (w.heap.size + 1) 5 i0 Tryd.underlying22 hi hz0 hz1 hz2 g3 (13 + ns.length) c3 (pk.map (.int .u8)) rfl O45.out a5 c5 ms rfl P5 hn13 hm13 hu5 ?_; intro g6 c6 u6 O6 hgr6 hat6 hlt6)
  clear S4 O4 M4 O5 mw Y5
  have hg3s : g3 ≠ w.heap.size := by omega
  have B6 : Below w.heap.size w u6 := M5.grown hgr6 (by omega) (by intro q hq; cases hq; omega)
  have S6 : SrcAt u6 w.heap.size w.heap.size a len cap zs (t' + 1 + ms.length) := S5.below' (N := w.heap.size + 1) ((Below.refl _ _).grown hgr6 (by omega) (by intro q hq; cases hq; omega)) (by omega)
  have hg6 : w.heap.size < g6 := by rcases hat6 with c | c <;> omega
  obtain ⟨xs, hxs⟩ : ∃ xs, xs = pk ++ ms := ⟨_, rfl⟩
  have hxl : xs.length = 13 + ns.length + ms.length := by rw [hxs]; simp; have := PLH.out; omega
  have XW : Hid (∀ y ∈ xs, (Lit.int .u8 y).wf = true) := by
    intro y hy
    rw [hxs] at hy
    rcases List.mem_append.1 hy with c | c
    · exact PW.out y c
    · exact MW.out y c
  have hxl2 : xs.length ≤ 19 := by omega
  have hx1 : 13 ≤ xs.length := by omega
  have O6' : Hid (World.ownsRow u6 (w.heap.size + 1) 5 1 (.slice (some ⟨g6, 0, none⟩) xs.length c6) xs.length (xs.map (.int .u8))) := by
    show World.ownsRow _ _ _ _ _ _ _
    rw [hxl, hxs, List.map_append]
    exact O6
  have c6b : xs.length ≤ c6 ∧ c6 ≤ maxLen := by
    obtain ⟨_, c', e1, _, _, h1, h2⟩ := own_form O6'.out (by omega)
    simp at e1
    rw [e1.2]
    exact ⟨h1, h2⟩
  clear O6 hgr6 hat6 O45 P5 M5 S5 PW MW NW hxs
  rw [← hxl]
  have HXL : Hid (xs.length = 13 + ns.length + ms.length) := hxl
  clear hxl PLH2
  refine (next_any _ _ _ a len cap zs _ 5 S6 (by omega) (by omega) (by omega)).mono ?_
  rintro e u7 ⟨k7, rfl, k70, k71, S7, Y7⟩
  have z7 := Y7.size
  have O7 : Hid (World.ownsRow u7 (w.heap.size + 1) 5 1 (.slice (some ⟨g6, 0, none⟩) xs.length c6) xs.length (xs.map (.int .u8))) := own_only O6'.out Y7 (by omega)
  have B7 := B6.trans (Y7.below (Nat.le_refl _) (by omega))
  clear S6 O6' B6 Y7
  have hxI : (1 : Int) ≤ (xs.length : Int) := by omega
  by_cases q0 : k7 = 0
  · have q0b : (k7 == 0) = true := by simpa using q0
    clear q0
    go_wp2_with fail
    refine (next_any _ _ _ a len cap zs _ xs.length S7 (by omega) (by omega) (by omega)).mono ?_
    rintro e u8 ⟨k8, rfl, k80, k81, S8, Y8⟩
    have z8 := Y8.size
    have O8 : Hid (World.ownsRow u8 (w.heap.size + 1) 5 1 (.slice (some ⟨g6, 0, none⟩) xs.length c6) xs.length (xs.map (.int .u8))) := own_only O7.out Y8 (by omega)
    have B8 := B7.trans (Y8.below (Nat.le_refl _) (by omega))
    obtain ⟨j, rfl⟩ : ∃ j : Nat, k8 = (j : Int) := ⟨k8.toNat, by omega⟩
    have hj : j < xs.length := by omega
    have PH : Hid (_) := pick4 u8 0 64 13 255 2
    clear S7 O7 B7 Y8
    go_wp2_with fail
    refine (pick_any _ _ _ a len cap zs _ (S8.alloc _) (by omega) u8.heap.size [0, 64, 13, 255] 4 rfl (by simp) (by omega) (by omega) (by omega) 4 PH.out).mono ?_
    rintro e u9 ⟨y, rfl, hy, S9, Y9⟩
    have hy' : 0 ≤ y ∧ y ≤ 255 := by simp at hy; omega
    have wy : IntKind.u8.wrap y = y := wrap_u8 hy'.1 hy'.2
    have Y9' : Only w.heap.size u8 u9 := ((Only.refl _ u8).alloc _).trans Y9
    have z9 := Y9'.size
    have O9 := own_only O8.out Y9' (by omega)
    have B9 := B8.trans (Y9'.below (Nat.le_refl _) (by omega))
    have y0 : u9.cell? ⟨g6, j, none⟩ = some (.int .u8 (xs.getD j 0)) := (O9.cellAt j (by omega)).trans (by simp [List.getD, hj])
    have f0 := O9.frozenAt j
    have OS := (O9.stored j (.int .u8 y)).1
    rw [← List.map_set] at OS
    have OSH : Hid (World.ownsRow (u9.setCell ⟨g6, j, none⟩ (.int .u8 y)) (w.heap.size + 1) 5 1 (.slice (some ⟨g6, 0, none⟩) xs.length c6) xs.length ((xs.set j y).map (.int .u8))) := OS
    clear S8 O8 B8 Y9 PH hy S9 O9 OS
    go_wp2
    go_ret
    have hsl : (xs.set j y).length = xs.length := by simp
    refine ⟨g6, c6, xs.set j y, by rw [hsl]; rfl, by omega, by omega, c6b.2, ?_, B9.setCell (by show w.heap.size ≤ g6; omega) _⟩
    exact has_of_own OSH.out (set_wf XW.out (wf_u8 hy'.1 hy'.2))
  · have q0b : (k7 == 0) = false := by simpa using q0
    clear q0
    by_cases q1 : k7 = 1
    · have q1b : (k7 == 1) = true := by simpa using q1
      clear q1
      go_wp2_with fail
      refine (next_any _ _ _ a len cap zs _ xs.length S7 (by omega) (by omega) (by omega)).mono ?_
      rintro e u8 ⟨k8, rfl, k80, k81, S8, Y8⟩
      have z8 := Y8.size
      have O8 := own_only O7.out Y8 (by omega)
      have B8 := B7.trans (Y8.below (Nat.le_refl _) (by omega))
      obtain ⟨j, rfl⟩ : ∃ j : Nat, k8 = (j : Int) := ⟨k8.toNat, by omega⟩
      have hj : j < xs.length := by omega
      have hjc : (j : Int) ≤ (c6 : Int) := by have := c6b.1; omega
      have P8 := has_of_own O8 XW.out
      clear S7 O7 B7 Y8 O8
      go_wp2
      go_ret
      have htl : (xs.take j).length = j := by simp; omega
      have hd := Has.drop P8 0 j (by omega)
      simp only [List.drop_zero, Nat.add_zero] at hd
      refine ⟨g6, c6, xs.take j, by rw [htl]; rfl, by omega, by omega, c6b.2, hd, B8⟩
    · have q1b : (k7 == 1) = false := by simpa using q1
      clear q1
      have P7 := has_of_own O7.out XW.out
      go_wp2
      go_ret
      exact ⟨g6, c6, xs, rfl, by omega, c6b.1, c6b.2, P7, B7⟩

end Go.Proofs.YtngibnmcagogaaaDoor
