/- Contracts: slices of int64 copied and held against each other by the laws. -/
import Derived.Test.YtkjhcblfkpknlaaDoorFrame
namespace Go.Proofs.YtkjhcblfkpknlaaDoor
open Go.ChangeShapes Go.WideShapes Go.ChangeAt Go.RowKit
set_option linter.unusedVariables false
set_option linter.unusedSimpArgs false

/-- A slice of integers that is only read: its elements. -/
def Has (w : World) (k : IntKind) (a : Option Addr) (len : Nat) (zs : List Int) : Prop :=
  zs.length = len ∧ (∀ n ∈ zs, (Lit.int k n).wf = true) ∧ (len = 0 ∨ ∃ b off, a = some ⟨b, off, none⟩ ∧ b < w.heap.size ∧ ∀ i, i < len → w.cell? ⟨b, off + i, none⟩ = some (.int k (zs.getD i 0)))

theorem Has.of_row {w : World} {k : IntKind} {a : Option Addr} {len cap : Nat} {zs : List Int} (h : IsRow k w a len cap zs) : Has w k a len (zs.take len) := by
  rcases h with ⟨rfl, rfl, rfl, rfl⟩ | ⟨x, rfl, hl, hm, hz, hcell, hwz⟩
  · exact ⟨rfl, by simp, .inl rfl⟩
  · refine ⟨by simp; omega, fun n hn => hwz n (List.mem_of_mem_take hn), ?_⟩
    by_cases h0 : len = 0
    · exact .inl h0
    · obtain ⟨b, off, spot⟩ := x
      have hc := hcell 0 (by omega)
      have hspot : spot = none := by simpa [Addr.add] using World.cell?_spot hc
      subst hspot
      refine .inr ⟨b, off, rfl, block_lt_of_cell hc, fun i hi => ?_⟩
      have := hcell i (by omega)
      by_cases hi0 : i = 0
      · subst hi0; simpa [Addr.add, List.getD, List.getElem?_take, hi] using this
      · simpa [Addr.add, List.getD, List.getElem?_take, hi, hi0] using this
theorem Has.below {w w' : World} {k : IntKind} {a : Option Addr} {len : Nat} {zs : List Int} (h : Has w k a len zs) {B : Nat} (hb : Below B w w') (hB : w.heap.size ≤ B) : Has w' k a len zs := by
  refine ⟨h.1, h.2.1, ?_⟩
  rcases h.2.2 with h0 | ⟨b, off, ha, hlt, hc⟩
  · exact .inl h0
  · exact .inr ⟨b, off, ha, Nat.lt_of_lt_of_le hlt hb.size, fun i hi => (hb.cell (p := ⟨b, off + i, none⟩) (Nat.lt_of_lt_of_le hlt hB)).trans (hc i hi)⟩
theorem Has.alloc {w : World} {k : IntKind} {a : Option Addr} {len : Nat} {zs : List Int} (h : Has w k a len zs) (O : Obj) : Has (w.alloc O) k a len zs := h.below ((Below.refl _ _).alloc (Nat.le_refl _) O) (Nat.le_refl _)
theorem Has.of_own {w : World} {base e : Nat} {g n cap : Nat} {zs : List Int} {k : IntKind} (h : w.ownsRow base e 1 (.slice (some ⟨g, 0, none⟩) n cap) n (zs.map (.int k))) (hg : g < w.heap.size) (hw : ∀ n ∈ zs, (Lit.int k n).wf = true) : Has w k (some ⟨g, 0, none⟩) n zs := by
  have hl := h.1
  simp at hl
  refine ⟨hl, hw, .inr ⟨g, 0, rfl, hg, fun i hi => ?_⟩⟩
  rw [Nat.zero_add, h.cellAt i (by omega)]
  simp [List.getD, List.getElem?_eq_getElem (show i < zs.length by omega)]

theorem info64 : (Tryd.prog.info? 2).map (fun i => (i.zero, i.size, i.bytes)) = some (some (.int .i64 0), 1, 8) := by kernel_rfl

/-- The first k numbers, and nothing yet behind them. -/
def part (zs : List Int) (k : Nat) : List Value := (zs.take k ++ List.replicate (zs.length - k) 0).map (.int .i64)
theorem part_zero (zs : List Int) : (madeCells (Value.int .i64 0).cells (zs.length * 1)).toList = part zs 0 := by
  unfold part madeCells
  simp [Value.cells]
  rw [List.eq_replicate_iff]
  exact ⟨by simp, fun b hb => by simp [Nat.mod_one] at hb; exact hb.2.symm⟩
theorem part_all (zs : List Int) : part zs zs.length = zs.map (.int .i64) := by unfold part; simp
theorem part_set (zs : List Int) (k : Nat) (h : k < zs.length) : (part zs k).set k (.int .i64 zs[k]) = part zs (k + 1) := by
  unfold part
  have hr : zs.length - k = (zs.length - (k + 1)) + 1 := by omega
  rw [hr, List.replicate_succ, ← List.map_set]
  congr 1
  rw [List.set_append_right _ _ (by simp; omega)]
  have hl : k - (zs.take k).length = 0 := by simp; omega
  rw [hl, List.set_cons_zero, List.take_succ_eq_append_getElem h, List.append_assoc]
  rfl
theorem part_cell (zs : List Int) (k : Nat) (h : k < zs.length) : (part zs k)[k]? = some (.int .i64 0) := by
  unfold part
  have hl : (zs.take k).length = k := by simp; omega
  rw [List.getElem?_map, List.getElem?_append_right (by omega), hl]
  simp [List.getElem?_replicate]
  omega

set_option maxHeartbeats 1000000 in
theorem toInts_any (a : Option Addr) (len cap : Nat) (zs : List Int) (w : World) (h : Has w .i64 a len zs) (hlen : len ≤ 1048576) :
    Calls Tryd.prog 34 #[.slice a len cap] w fun r w' => r = .returned (.slice (some ⟨w.heap.size, 0, none⟩) len len) ∧ w'.ownsRow w.heap.size 2 1 (.slice (some ⟨w.heap.size, 0, none⟩) len len) len (zs.map (.int .i64)) ∧ Below w.heap.size w w' := by
  obtain ⟨i0, hi, hz0, hz1, hz2⟩ := info_parts info64
  obtain ⟨rfl, hwf, hc⟩ := h
  have hpz := part_zero zs
  have hpa := part_all zs
  have PZ : Hid (_) := hpz
  have PA : Hid (_) := hpa
  clear hpz hpa
  rcases hc with h0 | ⟨b, off, rfl, hb, hcell⟩
  · obtain rfl : zs = [] := List.eq_nil_of_length_eq_zero h0
    have e : part [] 0 = ([] : List Int).map (.int .i64) := part_all []
    have EE : Hid (_) := e
    clear h0 e
    simp only [List.length_nil] at *
    go_enter Tryd.func34, Tryd.ntmps34
    go_wp2_with (at_make; refine wpList_make_full _ rfl _ _ 24 rfl w.heap.size 2 i0 (.int .i64 0) 1 Tryd.underlying24 hi hz0 hz1 _ _ _ _ 0 rfl rfl rfl rfl (by rw [hz2]; omega) (by unfold maxLen; omega) (Nat.le_refl _) ?_; intro w1 hown hgrow)
    have hbel : Below w.heap.size w w1 := (Below.refl _ _).grown hgrow (Nat.le_refl _) (by intro k hk; cases hk)
    clear hgrow
    refine wp_loop_rounds 1 ?_
    rw [rounds_succ]
    go_wp2
    go_ret
    refine ⟨rfl, ?_, hbel⟩
    rw [PZ.out, EE.out] at hown
    exact hown
  · go_enter Tryd.func34, Tryd.ntmps34
    go_wp2_with (at_make; refine wpList_make_full _ rfl _ _ 24 rfl w.heap.size 2 i0 (.int .i64 0) 1 Tryd.underlying24 hi hz0 hz1 _ _ _ _ zs.length rfl rfl rfl rfl (by rw [hz2]; omega) (by unfold maxLen; omega) (Nat.le_refl _) ?_; intro w1 hown hgrow)
    rw [PZ.out] at hown
    have hbel : Below w.heap.size w w1 := (Below.refl _ _).grown hgrow (Nat.le_refl _) (by intro k hk; cases hk)
    clear hgrow
    go_loopw [4] (fun i wr => ∃ k : Nat, k ≤ zs.length ∧ i = .int .i64 k ∧ wr.ownsRow w.heap.size 2 1 (.slice (some ⟨w.heap.size, 0, none⟩) zs.length zs.length) zs.length (part zs k) ∧ Below w.heap.size w wr) (fun i _ => zs.length - (intOf i).toNat)
    case atStart => exact ⟨0, Nat.zero_le _, rfl, hown, hbel⟩
    case round =>
      clear hown hbel
      obtain ⟨k, hk, rfl, hown, hbel⟩ := hrel
      by_cases hlt : k < zs.length
      · have hx : wr.cell? ⟨b, off + k, none⟩ = some (.int .i64 zs[k]) := (hbel.cell (p := ⟨b, off + k, none⟩) hb).trans (by rw [hcell k hlt]; simp [List.getD, hlt])
        have hy : wr.cell? ⟨w.heap.size, k, none⟩ = some (.int .i64 0) := (hown.cellAt k (by omega)).trans (part_cell zs k hlt)
        have hf := hown.frozenAt k
        have hst := hown.stored k (.int .i64 zs[k])
        rw [part_set zs k hlt] at hst
        have HST : Hid (_ ∧ _) := hst
        clear hst hown
        go_wp2
        go_roundw
        case rel => exact ⟨k + 1, by omega, by go_num, HST.out.1, hbel.setCell (Nat.le_refl _) _⟩
        case measure => simp [intOf]; omega
      · have hkk : k = zs.length := by omega
        have HK : Hid (k = zs.length) := hkk
        clear hkk
        go_wp2
        go_ret
        refine ⟨rfl, ?_, hbel⟩
        rw [HK.out, PA.out] at hown
        exact hown

set_option maxHeartbeats 1000000 in
theorem eqInts_any (a b : Option Addr) (ca cb : Nat) (zs : List Int) (w : World) (ha : Has w .i64 a zs.length zs) (hb : Has w .i64 b zs.length zs) (hlen : zs.length ≤ 1048576) :
    Calls Tryd.prog 36 #[.slice a zs.length ca, .slice b zs.length cb] w fun r w' => r = .returned (.bool true) ∧ Below w.heap.size w w' := by
  obtain ⟨_, _, ha⟩ := ha
  obtain ⟨_, _, hb⟩ := hb
  rcases ha with h0 | ⟨b1, o1, rfl, _, hc1⟩
  · obtain rfl : zs = [] := List.eq_nil_of_length_eq_zero h0
    clear h0 hb
    simp only [List.length_nil] at *
    go_enter Tryd.func36, Tryd.ntmps36
    go_wp2
    refine wp_loop_rounds 1 ?_
    rw [rounds_succ]
    go_wp2
    go_ret
    exact ⟨rfl, Below.refl _ _⟩
  · rcases hb with h0 | ⟨b2, o2, rfl, _, hc2⟩
    · obtain rfl : zs = [] := List.eq_nil_of_length_eq_zero h0
      clear h0 hc1
      simp only [List.length_nil] at *
      go_enter Tryd.func36, Tryd.ntmps36
      go_wp2
      refine wp_loop_rounds 1 ?_
      rw [rounds_succ]
      go_wp2
      go_ret
      exact ⟨rfl, Below.refl _ _⟩
    · go_enter Tryd.func36, Tryd.ntmps36
      go_wp2
      go_loopw [5] (fun i wr => ∃ k n : Nat, k ≤ zs.length ∧ i = .int .i64 k ∧ wr = w.drewN n) (fun i _ => zs.length - (intOf i).toNat)
      case atStart => exact ⟨0, 0, Nat.zero_le _, rfl, rfl⟩
      case round =>
        obtain ⟨k, n, hk, rfl, rfl⟩ := hrel
        by_cases hlt : k < zs.length
        · have e1 : w.cell? ⟨b1, o1 + k, none⟩ = some (.int .i64 zs[k]) := by rw [hc1 k hlt]; simp [List.getD, hlt]
          have e2 : w.cell? ⟨b2, o2 + k, none⟩ = some (.int .i64 zs[k]) := by rw [hc2 k hlt]; simp [List.getD, hlt]
          have e3 : (zs[k] != zs[k]) = false := by simp
          have hlt' : (k : Int) < (zs.length : Int) := by omega
          go_wp2
          go_quiet (fail)
          go_wp2
          go_roundw
          case rel => exact ⟨k + 1, _, by omega, by go_num, rfl⟩
          case measure => simp [intOf]; omega
        · go_wp2
          go_ret
          exact ⟨rfl, below_drewN (Below.refl _ _) _⟩

theorem toInts_has (a : Option Addr) (cap : Nat) (zs : List Int) (w : World) (h : Has w .i64 a zs.length zs) (hlen : zs.length ≤ 1048576) :
    Calls Tryd.prog 34 #[.slice a zs.length cap] w fun r w' => r = .returned (.slice (some ⟨w.heap.size, 0, none⟩) zs.length zs.length) ∧ Below w.heap.size w w' ∧ Has w' .i64 (some ⟨w.heap.size, 0, none⟩) zs.length zs ∧ w.heap.size < w'.heap.size := by
  refine (toInts_any a zs.length cap zs w h hlen).mono ?_
  rintro r w' ⟨hr, hown, hb⟩
  have hlt : w.heap.size < w'.heap.size := by
    rcases hown.2 with ⟨h1, _⟩ | ⟨g, cap', cur, h1, _, hg, _⟩
    · simp at h1
    · simp at h1
      obtain ⟨rfl, rfl⟩ := h1
      exact (Array.getElem?_eq_some_iff.1 hg).1
  exact ⟨hr, hb, Has.of_own hown hlt h.2.1, hlt⟩

end Go.Proofs.YtkjhcblfkpknlaaDoor
