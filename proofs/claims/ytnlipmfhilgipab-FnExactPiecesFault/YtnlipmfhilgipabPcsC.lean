/- Contracts: lists of pieces copied and held against each other by the laws. -/
import Derived.Test.YtnlipmfhilgipabPcsL
namespace Go.Proofs.Ytnlipmfhilgipab
open Go.ChangeShapes Go.WideShapes Go.ChangeAt Go.RowKit
set_option linter.unusedVariables false
set_option linter.unusedSimpArgs false

theorem own_other {w : World} {base e n x c : Nat} {xs : List Value} {p : Addr} (u : Value) (h : w.ownsRow base e 1 (.slice (some ⟨x, 0, none⟩) n c) n xs) (hne : x ≠ p.block) : (w.setCell p u).ownsRow base e 1 (.slice (some ⟨x, 0, none⟩) n c) n xs := by
  refine ⟨h.1, h.2.imp id ?_⟩
  rintro ⟨g, cap, cur, e1, e2, e3, e4⟩
  have e5 := e1
  simp at e5
  exact ⟨g, cap, cur, e1, e2, (Below.heap_setCell _ _ _ g (by rw [← e5.1]; exact hne)).trans e3, e4⟩
theorem OwnP.below {w w' : World} {base g : Nat} {rs : List Pc} {gs : List Nat} (h : OwnP w base g rs gs) (hb : Below w.heap.size w w') : OwnP w' base g rs gs := ⟨own_below h.out hb, fun i h1 h2 => own_below (h.row i h1 h2) hb, h.up, h.ord⟩
theorem OwnP.row_lt {w : World} {base g : Nat} {rs : List Pc} {gs : List Nat} (h : OwnP w base g rs gs) (hl : gs.length ≤ rs.length) : ∀ x ∈ gs, base ≤ x ∧ x < w.heap.size := by
  intro x hx
  obtain ⟨i, hi, rfl⟩ := List.getElem_of_mem hx
  exact (h.row i hi (by omega)).lt gs[i] rfl
/-- One row more. -/
theorem OwnP.more {w w1 : World} {base g : Nat} {rs : List Pc} {gs : List Nat} (h : OwnP w base g rs gs) (hlt : gs.length < rs.length) (hb : Below w.heap.size w w1) (hbase : base ≤ w.heap.size)
    (ho : w1.ownsRow w.heap.size 5 1 (.slice (some ⟨w.heap.size, 0, none⟩) (rs[gs.length]).zs.length (rs[gs.length]).zs.length) (rs[gs.length]).zs.length ((rs[gs.length]).zs.map (.int .u8))) :
    OwnP (w1.setCell ⟨g, gs.length, none⟩ (.slice (some ⟨w.heap.size, 0, none⟩) (rs[gs.length]).zs.length (rs[gs.length]).zs.length)) base g rs (gs ++ [w.heap.size]) := by
  have hg := (h.out.lt g rfl).2
  have hrl := h.row_lt (by omega)
  refine ⟨?_, ?_, ?_, ?_⟩
  · have := ((own_below h.out hb).stored gs.length (.slice (some ⟨w.heap.size, 0, none⟩) (rs[gs.length]).zs.length (rs[gs.length]).zs.length)).1
    rw [partR_set rs gs _ hlt] at this
    exact this
  · intro i hi hi2
    simp only [List.length_append, List.length_cons, List.length_nil] at hi
    by_cases hk : i < gs.length
    · have e : (gs ++ [w.heap.size])[i]'(by simp; omega) = gs[i] := List.getElem_append_left hk
      rw [e]
      exact own_other _ (own_below (h.row i hk hi2) hb) (by show gs[i] ≠ g; have := h.up gs[i] (List.getElem_mem hk); omega)
    · obtain rfl : i = gs.length := by omega
      have e : (gs ++ [w.heap.size])[gs.length]'(by simp) = w.heap.size := by simp
      rw [e]
      exact own_other _ (own_mono ho hbase) (by show w.heap.size ≠ g; omega)
  · intro x hx
    simp at hx
    rcases hx with hx | rfl
    · exact h.up x hx
    · exact hg
  · rw [List.pairwise_append]
    refine ⟨h.ord, by simp, ?_⟩
    intro x hx y hy
    simp at hy
    subst hy
    exact (hrl x hx).2

set_option maxHeartbeats 2000000 in
theorem toByteSS_any (a : Option Addr) (c : Nat) (rs : List Pc) (w : World) (h : HasP w a rs) (hl : rs.length ≤ 1048576) (hz : ∀ r ∈ rs, r.zs.length ≤ 1048576) :
    Calls Try.prog 6 #[.slice a rs.length c] w fun r w' => ∃ gs, gs.length = rs.length ∧ r = .returned (.slice (some ⟨w.heap.size, 0, none⟩) rs.length rs.length) ∧ OwnP w' w.heap.size w.heap.size rs gs ∧ Below w.heap.size w w' := by
  obtain ⟨i0, hi, hz0, hz1, hz2⟩ := info_parts infoSS
  have PZ : Hid ((madeCells (Value.slice none 0 0).cells (rs.length * 1)).toList = partR rs []) := partR_zero rs
  rcases h.1 with h0 | ⟨b, off, rfl, hb, hcell⟩
  · obtain rfl : rs = [] := List.eq_nil_of_length_eq_zero h0
    simp only [List.length_nil] at *
    go_enter Try.func6, Try.ntmps6
    go_wp2_with (at_make; refine wpList_make_full _ rfl _ _ 22 rfl w.heap.size 29 i0 (.slice none 0 0) 1 Try.underlying22 hi hz0 hz1 _ _ _ _ 0 rfl rfl rfl rfl (by rw [hz2]; omega) (by unfold maxLen; omega) (Nat.le_refl _) ?_; intro w1 hown hgrow)
    have hbel : Below w.heap.size w w1 := (Below.refl _ _).grown hgrow (Nat.le_refl _) (by intro k hk; cases hk)
    clear hgrow
    rw [PZ.out] at hown
    refine wp_loop_rounds 1 ?_
    rw [rounds_succ]
    go_wp2
    go_ret
    exact ⟨[], rfl, rfl, ⟨hown, fun i h1 h2 => by simp at h1, by simp, by simp⟩, hbel⟩
  · go_enter Try.func6, Try.ntmps6
    go_wp2_with (at_make; refine wpList_make_full _ rfl _ _ 22 rfl w.heap.size 29 i0 (.slice none 0 0) 1 Try.underlying22 hi hz0 hz1 _ _ _ _ rs.length rfl rfl rfl rfl (by rw [hz2]; omega) (by unfold maxLen; omega) (Nat.le_refl _) ?_; intro w1 hown hgrow)
    rw [PZ.out] at hown
    have hbel : Below w.heap.size w w1 := (Below.refl _ _).grown hgrow (Nat.le_refl _) (by intro k hk; cases hk)
    clear hgrow
    go_loopw [4] (fun i wr => ∃ gs : List Nat, gs.length ≤ rs.length ∧ i = .int .i64 gs.length ∧ OwnP wr w.heap.size w.heap.size rs gs ∧ Below w.heap.size w wr) (fun i _ => rs.length - (intOf i).toNat)
    case atStart => exact ⟨[], Nat.zero_le _, rfl, ⟨hown, fun i h1 h2 => by simp at h1, by simp, by simp⟩, hbel⟩
    case round =>
      clear hown hbel
      obtain ⟨gs, hk, rfl, hown, hbel⟩ := hrel
      by_cases hlt : gs.length < rs.length
      · have hlt' : (gs.length : Int) < (rs.length : Int) := by omega
        have hx : wr.cell? ⟨b, off + gs.length, none⟩ = some (.slice (rs[gs.length]).ad (rs[gs.length]).zs.length (rs[gs.length]).cap) := (hbel.cell (p := ⟨b, off + gs.length, none⟩) hb).trans (hcell gs.length hlt)
        have hrow := h.2 (rs[gs.length]) (List.getElem_mem hlt)
        have hzk := hz (rs[gs.length]) (List.getElem_mem hlt)
        have TB : Hid (Calls Try.prog 11 #[.slice (rs[gs.length]).ad (rs[gs.length]).zs.length (rs[gs.length]).cap] wr fun r w' => r = .returned (.slice (some ⟨wr.heap.size, 0, none⟩) (rs[gs.length]).zs.length (rs[gs.length]).zs.length) ∧ w'.ownsRow wr.heap.size 5 1 (.slice (some ⟨wr.heap.size, 0, none⟩) (rs[gs.length]).zs.length (rs[gs.length]).zs.length) (rs[gs.length]).zs.length ((rs[gs.length]).zs.map (.int .u8)) ∧ Below wr.heap.size wr w') := toBytes_any _ _ _ _ wr (hrow.1.below hbel (Nat.le_refl _)) hzk
        have MO : Hid (∀ w1 : World, Below wr.heap.size wr w1 → w1.ownsRow wr.heap.size 5 1 (.slice (some ⟨wr.heap.size, 0, none⟩) (rs[gs.length]).zs.length (rs[gs.length]).zs.length) (rs[gs.length]).zs.length ((rs[gs.length]).zs.map (.int .u8)) → OwnP (w1.setCell ⟨w.heap.size, gs.length, none⟩ (.slice (some ⟨wr.heap.size, 0, none⟩) (rs[gs.length]).zs.length (rs[gs.length]).zs.length)) w.heap.size w.heap.size rs (gs ++ [wr.heap.size])) := fun w1 h1 h2 => hown.more hlt h1 hbel.size h2
        have OUT : Hid (∀ w1 : World, Below wr.heap.size wr w1 → w1.cell? ⟨w.heap.size, gs.length, none⟩ = some (.slice none 0 0) ∧ w1.frozen? ⟨w.heap.size, gs.length, none⟩ = false) := fun w1 h1 => ⟨((own_below hown.out h1).cellAt gs.length (by omega)).trans (partR_cell rs gs hlt), (own_below hown.out h1).frozenAt gs.length⟩
        clear hown hcell hrow h
        go_wp2_with fail
        refine TB.out.mono ?_
        rintro r u1 ⟨rfl, O1, hb1⟩
        obtain ⟨x1, x2⟩ := OUT.out u1 hb1
        have M1 := MO.out u1 hb1 O1
        have HM : Hid (OwnP (u1.setCell ⟨w.heap.size, gs.length, none⟩ (.slice (some ⟨wr.heap.size, 0, none⟩) (rs[gs.length]).zs.length (rs[gs.length]).zs.length)) w.heap.size w.heap.size rs (gs ++ [wr.heap.size])) := M1
        have B1 := hbel.trans (hb1.mono hbel.size)
        clear M1 O1 MO OUT TB hx
        go_wp2
        go_roundw
        case rel => exact ⟨gs ++ [wr.heap.size], by simp; omega, by simp, HM.out, B1.setCell (Nat.le_refl _) _⟩
        case measure => simp [intOf]; omega
      · have hkk : gs.length = rs.length := by omega
        have HK : Hid (gs.length = rs.length) := hkk
        clear hkk
        go_wp2
        go_ret
        exact ⟨gs, HK.out, rfl, hown, hbel⟩

/-- The copy of a list of pieces, as one that is read. -/
def copyP (rs : List Pc) (gs : List Nat) : List Pc := List.zipWith (fun (g : Nat) (r : Pc) => ⟨some ⟨g, 0, none⟩, r.zs.length, r.zs⟩) gs rs
theorem copyP_len {rs : List Pc} {gs : List Nat} (h : gs.length = rs.length) : (copyP rs gs).length = rs.length := by unfold copyP; simp [h]
theorem copyP_get {rs : List Pc} {gs : List Nat} (h : gs.length = rs.length) (i : Nat) (hi : i < (copyP rs gs).length) : (copyP rs gs)[i] = ⟨some ⟨gs[i]'(by rw [copyP_len h] at hi; omega), 0, none⟩, (rs[i]'(by rw [copyP_len h] at hi; exact hi)).zs.length, (rs[i]'(by rw [copyP_len h] at hi; exact hi)).zs⟩ := by
  exact List.getElem_zipWith ..
theorem copyP_zs {rs : List Pc} {gs : List Nat} (h : gs.length = rs.length) : (copyP rs gs).map Pc.zs = rs.map Pc.zs := by
  refine List.ext_getElem (by simp [copyP_len h]) fun i h1 h2 => ?_
  simp only [List.getElem_map]
  rw [copyP_get h i (by simpa using h1)]
theorem zs_get {rs qs : List Pc} (h : qs.map Pc.zs = rs.map Pc.zs) (i : Nat) (hi : i < rs.length) (hj : i < qs.length) : qs[i].zs = rs[i].zs := by
  have := congrArg (fun l : List (List Int) => l[i]?) h
  simp only [List.getElem?_map, List.getElem?_eq_getElem hi, List.getElem?_eq_getElem hj, Option.map_some, Option.some.injEq] at this
  exact this
theorem zs_len {rs qs : List Pc} (h : qs.map Pc.zs = rs.map Pc.zs) : qs.length = rs.length := by
  have := congrArg List.length h
  simpa using this
theorem zs_mem {rs qs : List Pc} (h : qs.map Pc.zs = rs.map Pc.zs) {P : List Int → Prop} (hp : ∀ r ∈ rs, P r.zs) : ∀ r ∈ qs, P r.zs := by
  intro r hr
  have h1 : r.zs ∈ qs.map Pc.zs := List.mem_map_of_mem hr
  rw [h] at h1
  obtain ⟨r', hr', e⟩ := List.mem_map.1 h1
  rw [← e]
  exact hp r' hr'
theorem pcF_zs {rs qs : List Pc} (h : qs.map Pc.zs = rs.map Pc.zs) : pcF qs = pcF rs := by
  have e : ∀ l : List Pc, l.all (fun r => decide (r.zs.length ≤ 250)) = (l.map Pc.zs).all (fun z => decide (z.length ≤ 250)) := fun l => by rw [List.all_map]; rfl
  unfold pcF
  rw [zs_len h, e, e, h]
theorem OwnP.has {w : World} {base g : Nat} {rs : List Pc} {gs : List Nat} (h : OwnP w base g rs gs) (hl : gs.length = rs.length) (hw : ∀ r ∈ rs, (∀ n ∈ r.zs, (Lit.int .u8 n).wf = true) ∧ r.zs.length ≤ maxLen) : HasP w (some ⟨g, 0, none⟩) (copyP rs gs) := by
  refine ⟨?_, ?_⟩
  · refine .inr ⟨g, 0, rfl, (h.out.lt g rfl).2, fun i hi => ?_⟩
    have hi' : i < rs.length := by rw [copyP_len hl] at hi; exact hi
    rw [Nat.zero_add, h.out.cellAt i (by omega), copyP_get hl i hi]
    unfold partR
    rw [List.getElem?_append_left (by simp; omega), List.getElem?_eq_getElem (by simp; omega), List.getElem_zipWith]
  · intro r hr
    obtain ⟨i, hi, rfl⟩ := List.getElem_of_mem hr
    have hi' : i < rs.length := by rw [copyP_len hl] at hi; exact hi
    rw [copyP_get hl i hi]
    have hm := hw rs[i] (List.getElem_mem hi')
    have ho := h.row i (by omega) hi'
    refine ⟨Has.of_own ho (ho.lt _ rfl).2 hm.1, Nat.le_refl _, hm.2⟩

set_option maxHeartbeats 2000000 in
theorem eqByteSS_any (a b : Option Addr) (ca cb : Nat) (rs qs : List Pc) (w : World) (ha : HasP w a rs) (hb : HasP w b qs) (he : qs.map Pc.zs = rs.map Pc.zs) (hl : rs.length ≤ 1048576) (hz : ∀ r ∈ rs, r.zs.length ≤ 1048576) :
    Calls Try.prog 8 #[.slice a rs.length ca, .slice b qs.length cb] w fun r w' => r = .returned (.bool true) ∧ Below w.heap.size w w' := by
  have hle := zs_len he
  rw [hle]
  have hll : ((rs.length : Int) != (rs.length : Int)) = false := by simp
  have hA := ha.1
  have hB := hb.1
  rcases hA with h0 | ⟨b1, o1, rfl, hb1, hc1⟩
  · obtain rfl : rs = [] := List.eq_nil_of_length_eq_zero h0
    simp only [List.length_nil] at *
    clear hB
    go_enter Try.func8, Try.ntmps8
    go_wp2
    refine wp_loop_rounds 1 ?_
    rw [rounds_succ]
    go_wp2
    go_ret
    exact ⟨rfl, Below.refl _ _⟩
  · rcases hB with h0 | ⟨b2, o2, rfl, hb2, hc2⟩
    · obtain rfl : rs = [] := List.eq_nil_of_length_eq_zero (by omega)
      simp only [List.length_nil] at *
      clear hc1
      go_enter Try.func8, Try.ntmps8
      go_wp2
      refine wp_loop_rounds 1 ?_
      rw [rounds_succ]
      go_wp2
      go_ret
      exact ⟨rfl, Below.refl _ _⟩
    · go_enter Try.func8, Try.ntmps8
      go_wp2
      go_loopw [5] (fun i wr => ∃ k : Nat, k ≤ rs.length ∧ i = .int .i64 k ∧ Below w.heap.size w wr) (fun i _ => rs.length - (intOf i).toNat)
      case atStart => exact ⟨0, Nat.zero_le _, rfl, Below.refl _ _⟩
      case round =>
        obtain ⟨k, hk, rfl, hbel⟩ := hrel
        by_cases hlt : k < rs.length
        · have hlt' : (k : Int) < (rs.length : Int) := by omega
          have hlq : k < qs.length := by omega
          have ez : qs[k].zs = rs[k].zs := zs_get he k hlt hlq
          have r1 := ha.2 rs[k] (List.getElem_mem hlt)
          have r2 := hb.2 qs[k] (List.getElem_mem hlq)
          have e1 : wr.cell? ⟨b1, o1 + k, none⟩ = some (.slice rs[k].ad rs[k].zs.length rs[k].cap) := (hbel.cell (p := ⟨b1, o1 + k, none⟩) hb1).trans (hc1 k hlt)
          have e2 : wr.cell? ⟨b2, o2 + k, none⟩ = some (.slice qs[k].ad rs[k].zs.length qs[k].cap) := (hbel.cell (p := ⟨b2, o2 + k, none⟩) hb2).trans (by rw [hc2 k (by omega), ez])
          rw [ez] at r2
          have hne : Nonempty (KeptW wr) := ⟨⟨_, Below.refl _ _⟩⟩
          have K1 := KeptW.cell e1 (Nat.lt_of_lt_of_le hb1 hbel.size)
          have K2 := KeptW.cell e2 (Nat.lt_of_lt_of_le hb2 hbel.size)
          have EQ : Hid (∀ d : KeptW wr, Calls Try.prog 12 #[.slice rs[k].ad rs[k].zs.length rs[k].cap, .slice qs[k].ad rs[k].zs.length qs[k].cap] d.wd fun r w' => r = .returned (.bool true) ∧ Below d.wd.heap.size d.wd w') := fun d => eqBytes_any _ _ _ _ rs[k].zs d.wd ((r1.1.below hbel (Nat.le_refl _)).below d.hb (Nat.le_refl _)) ((r2.1.below hbel (Nat.le_refl _)).below d.hb (Nat.le_refl _)) (hz _ (List.getElem_mem hlt))
          clear r1 r2 ez e1 e2 hc1 hc2 ha hb
          go_wp2_with fail
          refine wp_region_kept (by kernel_rfl) (by kernel_rfl) ?_
          repeat (go_big_quiet_step ((go_at_call 12; exact KeptW.calls (EQ.out _))))
          refine wpQuiet_nil ?_
          rintro _ ⟨d, rfl⟩
          go_wp2
          go_roundw
          case rel => exact ⟨k + 1, by omega, by go_num, hbel.trans (d.hb.mono hbel.size)⟩
          case measure => simp [intOf]; omega
        · go_wp2
          go_ret
          exact ⟨rfl, hbel⟩

end Go.Proofs.Ytnlipmfhilgipab
