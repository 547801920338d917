/- Contracts of the laws' own functions over slots: copied, held against each other. -/
import Derived.Test.YtjjddjohckcmbaaDoorSlM
namespace Go.Proofs.YtjjddjohckcmbaaDoor
open Go.ChangeShapes Go.WideShapes Go.ChangeAt Go.RowKit
set_option linter.unusedVariables false
set_option linter.unusedSimpArgs false

theorem infoSl : (Tryd.prog.info? 50).map (fun i => (i.zero, i.size, i.bytes)) = some (some (.agg #[.int .i64 0, .int .i64 0]), 2, 16) := by kernel_rfl
theorem madeS (n : Nat) : (madeCells (Value.agg #[.int .i64 0, .int .i64 0]).cells (n * 2)).toList = (List.replicate (n * 2) (0 : Int)).map (.int .i64) := by
  unfold madeCells
  simp [Value.cells]
  rw [List.eq_replicate_iff]
  refine ⟨by simp, fun b hb => ?_⟩
  simp at hb
  obtain ⟨i, hi, rfl⟩ := hb
  rcases Nat.mod_two_eq_zero_or_one i with h | h <;> simp [h]
theorem part_made (l : List Sl) : (madeCells (Value.agg #[.int .i64 0, .int .i64 0]).cells (l.length * 2)).toList = part (flat l) 0 := by
  rw [madeS]; unfold part; rw [flat_len]; simp

set_option maxHeartbeats 2000000 in
theorem toSlotS_any (a : Option Addr) (c : Nat) (l : List Sl) (w : World) (h : HasS w a l) (hl : l.length ≤ 1048576) :
    Calls Tryd.prog 34 #[.slice a l.length c] w fun r w' => r = .returned (.slice (some ⟨w.heap.size, 0, none⟩) l.length l.length) ∧ OwnS w' w.heap.size (.slice (some ⟨w.heap.size, 0, none⟩) l.length l.length) l ∧ Below w.heap.size w w' := by
  obtain ⟨i0, hi, hz0, hz1, hz2⟩ := info_parts infoSl
  have PZ : Hid ((madeCells (Value.agg #[.int .i64 0, .int .i64 0]).cells (l.length * 2)).toList = part (flat l) 0) := part_made l
  have PA : Hid (part (flat l) (l.length * 2) = (flat l).map (.int .i64)) := by
    have := part_all (flat l)
    rw [flat_len] at this
    exact this
  rcases h.cells with h0 | ⟨b, off, rfl, hb, hcell⟩
  · subst h0
    simp only [List.length_nil] at *
    go_enter Tryd.func34, Tryd.ntmps34
    go_wp2_with (at_make; refine wpList_make_full _ rfl _ _ 24 rfl w.heap.size 50 i0 (.agg #[.int .i64 0, .int .i64 0]) 2 Tryd.underlying24 hi hz0 hz1 _ _ _ _ 0 rfl rfl rfl rfl (by rw [hz2]; omega) (by unfold maxLen; omega) (Nat.le_refl _) ?_; intro w1 hown hgrow)
    have hbel : Below w.heap.size w w1 := (Below.refl _ _).grown hgrow (Nat.le_refl _) (by intro k hk; cases hk)
    clear hgrow
    rw [PZ.out] at hown
    refine wp_loop_rounds 1 ?_
    rw [rounds_succ]
    go_wp2
    go_ret
    exact ⟨rfl, hown, hbel⟩
  · go_enter Tryd.func34, Tryd.ntmps34
    go_wp2_with (at_make; refine wpList_make_full _ rfl _ _ 24 rfl w.heap.size 50 i0 (.agg #[.int .i64 0, .int .i64 0]) 2 Tryd.underlying24 hi hz0 hz1 _ _ _ _ l.length rfl rfl rfl rfl (by rw [hz2]; omega) (by unfold maxLen; omega) (Nat.le_refl _) ?_; intro w1 hown hgrow)
    rw [PZ.out] at hown
    have hbel : Below w.heap.size w w1 := (Below.refl _ _).grown hgrow (Nat.le_refl _) (by intro k hk; cases hk)
    clear hgrow
    go_loopw [4] (fun i wr => ∃ k : Nat, k ≤ l.length ∧ i = .int .i64 k ∧ wr.ownsRow w.heap.size 50 2 (.slice (some ⟨w.heap.size, 0, none⟩) l.length l.length) l.length (part (flat l) (k * 2)) ∧ Below w.heap.size w wr) (fun i _ => l.length - (intOf i).toNat)
    case atStart => exact ⟨0, Nat.zero_le _, rfl, hown, hbel⟩
    case round =>
      clear hown hbel
      obtain ⟨k, hk, rfl, hown, hbel⟩ := hrel
      by_cases hlt : k < l.length
      · have hlt' : (k : Int) < (l.length : Int) := by omega
        have h1 : wr.cell? ⟨b, off + k * 2, none⟩ = some (.int .i64 l[k].1) := (hbel.cell (p := ⟨b, off + k * 2, none⟩) hb).trans (hcell k hlt).1
        have h2 : wr.cell? ⟨b, off + k * 2 + 1, none⟩ = some (.int .i64 l[k].2) := (hbel.cell (p := ⟨b, off + k * 2 + 1, none⟩) hb).trans (hcell k hlt).2
        obtain ⟨g1, g2⟩ := flat_get l k hlt
        have fl := flat_len l
        have p1 : k * 2 < (flat l).length := by omega
        have p2 : k * 2 + 1 < (flat l).length := by omega
        rw [List.getElem?_eq_getElem p1] at g1
        rw [List.getElem?_eq_getElem p2] at g2
        simp only [Option.some.injEq] at g1 g2
        have ST : Hid (∀ u : World, Below wr.heap.size wr u → u.cell? ⟨w.heap.size, k * 2, none⟩ = some (.int .i64 0) ∧ u.cell? ⟨w.heap.size, k * 2 + 1, none⟩ = some (.int .i64 0) ∧ u.frozen? ⟨w.heap.size, k * 2, none⟩ = false ∧ u.frozen? ⟨w.heap.size, k * 2 + 1, none⟩ = false ∧ ((u.setCell ⟨w.heap.size, k * 2, none⟩ (.int .i64 l[k].1)).setCell ⟨w.heap.size, k * 2 + 1, none⟩ (.int .i64 l[k].2)).ownsRow w.heap.size 50 2 (.slice (some ⟨w.heap.size, 0, none⟩) l.length l.length) l.length (part (flat l) ((k + 1) * 2))) := by
          intro u hu
          have ho := own2_below hown hu
          have s1 := (ho.stored (k * 2) (.int .i64 l[k].1)).1
          rw [← g1, part_set (flat l) (k * 2) p1] at s1
          have s2 := (s1.stored (k * 2 + 1) (.int .i64 l[k].2)).1
          rw [← g2, part_set (flat l) (k * 2 + 1) p2] at s2
          refine ⟨(ho.cellAt (k * 2) (by omega)).trans (part_cell _ _ p1), ?_, ho.frozenAt _, ho.frozenAt _, ?_⟩
          · rw [ho.cellAt (k * 2 + 1) (by omega)]
            unfold part
            have hl : ((flat l).take (k * 2)).length = k * 2 := by simp; omega
            rw [List.getElem?_map, List.getElem?_append_right (by omega), hl]
            simp [List.getElem?_replicate]
            omega
          · rw [← g1, ← g2]
            have e : (k + 1) * 2 = k * 2 + 1 + 1 := by omega
            rw [e]
            exact s2
        clear hown hcell p1 p2 g1 g2 fl
        go_wp2_with fail
        refine (toSlot_any _ _ _).mono ?_
        rintro r u1 ⟨rfl, hb1⟩
        obtain ⟨c1, c2, f1, f2, O⟩ := ST.out u1 hb1
        have OH : Hid (_) := O
        have B1 := hbel.trans (hb1.mono hbel.size)
        clear O ST
        go_wp2
        go_roundw
        case rel => exact ⟨k + 1, by omega, by go_num, OH.out, (B1.setCell (Nat.le_refl _) _).setCell (Nat.le_refl _) _⟩
        case measure => simp [intOf]; omega
      · have hkk : k = l.length := by omega
        have HK : Hid (k = l.length) := hkk
        clear hkk
        go_wp2
        go_ret
        refine ⟨rfl, ?_, hbel⟩
        rw [HK.out, PA.out] at hown
        exact hown

theorem toSlotS_has (a : Option Addr) (c : Nat) (l : List Sl) (w : World) (h : HasS w a l) (hl : l.length ≤ 1048576) :
    Calls Tryd.prog 34 #[.slice a l.length c] w fun r w' => r = .returned (.slice (some ⟨w.heap.size, 0, none⟩) l.length l.length) ∧ Below w.heap.size w w' ∧ HasS w' (some ⟨w.heap.size, 0, none⟩) l ∧ w.heap.size < w'.heap.size := by
  refine (toSlotS_any a c l w h hl).mono ?_
  rintro r w' ⟨rfl, O, hb⟩
  exact ⟨rfl, hb, O.has h.wf, (own2_base O _ rfl).2⟩

set_option maxHeartbeats 2000000 in
theorem eqSlotS_any (a b : Option Addr) (ca cb : Nat) (l : List Sl) (w : World) (ha : HasS w a l) (hb : HasS w b l) (hl : l.length ≤ 1048576) :
    Calls Tryd.prog 36 #[.slice a l.length ca, .slice b l.length cb] w fun r w' => r = .returned (.bool true) ∧ Below w.heap.size w w' := by
  have hll : ((l.length : Int) != (l.length : Int)) = false := by simp
  rcases ha.cells with h0 | ⟨b1, o1, rfl, hb1, hc1⟩
  · subst h0
    simp only [List.length_nil] at *
    go_enter Tryd.func36, Tryd.ntmps36
    go_wp2
    refine wp_loop_rounds 1 ?_
    rw [rounds_succ]
    go_wp2
    go_ret
    exact ⟨rfl, Below.refl _ _⟩
  · rcases hb.cells with h0 | ⟨b2, o2, rfl, hb2, hc2⟩
    · subst h0
      simp only [List.length_nil] at *
      go_enter Tryd.func36, Tryd.ntmps36
      go_wp2
      refine wp_loop_rounds 1 ?_
      rw [rounds_succ]
      go_wp2
      go_ret
      exact ⟨rfl, Below.refl _ _⟩
    · go_enter Tryd.func36, Tryd.ntmps36
      go_wp2
      go_loopw [5] (fun i wr => ∃ k : Nat, k ≤ l.length ∧ i = .int .i64 k ∧ Below w.heap.size w wr) (fun i _ => l.length - (intOf i).toNat)
      case atStart => exact ⟨0, Nat.zero_le _, rfl, Below.refl _ _⟩
      case round =>
        obtain ⟨k, hk, rfl, hbel⟩ := hrel
        by_cases hlt : k < l.length
        · have hlt' : (k : Int) < (l.length : Int) := by omega
          have e1 : wr.cell? ⟨b1, o1 + k * 2, none⟩ = some (.int .i64 l[k].1) := (hbel.cell (p := ⟨b1, o1 + k * 2, none⟩) hb1).trans (hc1 k hlt).1
          have e2 : wr.cell? ⟨b1, o1 + k * 2 + 1, none⟩ = some (.int .i64 l[k].2) := (hbel.cell (p := ⟨b1, o1 + k * 2 + 1, none⟩) hb1).trans (hc1 k hlt).2
          have e3 : wr.cell? ⟨b2, o2 + k * 2, none⟩ = some (.int .i64 l[k].1) := (hbel.cell (p := ⟨b2, o2 + k * 2, none⟩) hb2).trans (hc2 k hlt).1
          have e4 : wr.cell? ⟨b2, o2 + k * 2 + 1, none⟩ = some (.int .i64 l[k].2) := (hbel.cell (p := ⟨b2, o2 + k * 2 + 1, none⟩) hb2).trans (hc2 k hlt).2
          generalize l[k].1 = x at e1 e3
          generalize l[k].2 = y at e2 e4
          have hne : Nonempty (KeptW wr) := ⟨⟨_, Below.refl _ _⟩⟩
          have K1 := KeptW.cell e1 (Nat.lt_of_lt_of_le hb1 hbel.size)
          have K2 := KeptW.cell e2 (Nat.lt_of_lt_of_le hb1 hbel.size)
          have K3 := KeptW.cell e3 (Nat.lt_of_lt_of_le hb2 hbel.size)
          have K4 := KeptW.cell e4 (Nat.lt_of_lt_of_le hb2 hbel.size)
          clear e1 e2 e3 e4 hc1 hc2 ha hb
          go_wp2_with fail
          refine wp_region_kept (by kernel_rfl) (by kernel_rfl) ?_
          repeat (go_big_quiet_step ((go_at_call 78; exact KeptW.calls (eqSlot_any x y _))))
          refine wpQuiet_nil ?_
          rintro _ ⟨d, rfl⟩
          go_wp2
          go_roundw
          case rel => exact ⟨k + 1, by omega, by go_num, hbel.trans (d.hb.mono hbel.size)⟩
          case measure => simp [intOf]; omega
        · go_wp2
          go_ret
          exact ⟨rfl, hbel⟩

/-- What is left of a measure. -/
def szW (n : Int) (l : List Sl) : Int := if n - l.length < 0 then -1 else n - l.length
theorem szW_ok {n : Int} {l : List Sl} (h : ¬ szW n l < 0) (hn : n ≤ 1048576) : l.length ≤ 1048576 ∧ True ∧ szW n l ≤ 1048576 ∧ 0 ≤ szW n l ∧ True := by
  unfold szW at *
  split at h
  · omega
  · rename_i h2
    rw [if_neg h2]
    exact ⟨by omega, trivial, by omega, by omega, trivial⟩
theorem szS_any (a : Option Addr) (c : Nat) (l : List Sl) (n : Int) (w : World) (h : HasS w a l) (hl : l.length ≤ maxLen) (hn : 0 ≤ n) (hn2 : n ≤ 1048576) :
    Calls Tryd.prog 33 #[.slice a l.length c, .int .i64 n] w fun r w' => r = .returned (.int .i64 (szW n l)) ∧ Below w.heap.size w w' := by
  refine (szSlotS_any a l.length c n w hl hn hn2).mono ?_
  rintro r w' ⟨rfl, rfl⟩
  exact ⟨rfl, Below.refl _ _⟩

end Go.Proofs.YtjjddjohckcmbaaDoor
