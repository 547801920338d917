/- Lists of pieces: slices of slices of bytes that are read; how one that came in is opened; how much they have; the model's fault of them. Contracts: lists of pieces measured, copied and held against each other by the laws. Contracts: lists of pieces copied and held against each other by the laws. -/
import Derived.Test.YtklhkhlmhddmcaaDoorBytes
import Derived.Test.YtklhkhlmhddmcaaDoorToClash
import Derived.Deep.Matrix
import Derived.Test.YtklhkhlmhddmcaaDoorKeep
import Derived.Test.YtklhkhlmhddmcaaDoorMarkI
namespace Go.Proofs.YtklhkhlmhddmcaaDoor
open Go.ChangeShapes Go.WideShapes Go.ChangeAt Go.RowKit
set_option linter.unusedVariables false
set_option linter.unusedSimpArgs false

/-- A piece of a list: where it lies, what room it has, its bytes. -/
structure Pc where
  ad : Option Addr
  cap : Nat
  zs : List Int
/-- A slice of slices of bytes that is only read. -/
def HasP (w : World) (a : Option Addr) (rs : List Pc) : Prop :=
  (rs.length = 0 ∨ ∃ b off, a = some ⟨b, off, none⟩ ∧ b < w.heap.size ∧ ∀ i (h : i < rs.length), w.cell? ⟨b, off + i, none⟩ = some (.slice rs[i].ad rs[i].zs.length rs[i].cap)) ∧
  ∀ r ∈ rs, Has w .u8 r.ad r.zs.length r.zs ∧ r.zs.length ≤ r.cap ∧ r.cap ≤ maxLen
theorem HasP.below {w w' : World} {a : Option Addr} {rs : List Pc} (h : HasP w a rs) {B : Nat} (hb : Below B w w') (hB : w.heap.size ≤ B) : HasP w' a rs := by
  refine ⟨?_, fun r hr => ⟨(h.2 r hr).1.below hb hB, (h.2 r hr).2⟩⟩
  rcases h.1 with h0 | ⟨b, off, ha, hlt, hc⟩
  · exact .inl h0
  · exact .inr ⟨b, off, ha, Nat.lt_of_lt_of_le hlt hb.size, fun i hi => (hb.cell (p := ⟨b, off + i, none⟩) (Nat.lt_of_lt_of_le hlt hB)).trans (hc i hi)⟩
theorem HasP.alloc {w : World} {a : Option Addr} {rs : List Pc} (h : HasP w a rs) (O : Obj) : HasP (w.alloc O) a rs := h.below ((Below.refl _ _).alloc (Nat.le_refl _) O) (Nat.le_refl _)
/-- A slice of slices of bytes that came in. -/
def IsPcs (w : World) (a : Option Addr) (len cap : Nat) (rs : List Pc) : Prop := len ≤ cap ∧ cap ≤ maxLen ∧ rs.length = len ∧ HasP w a rs
theorem pcs_of_trod {H : Type} {enc : TypeId × Value → H} {P : Program} {w : World} {base : Nat} {held : Bool} {fuel : Nat} {t e q : TypeId} {v : Value} {x : DataW H × List MemPlace} (ht : P.underlying t = some (.slice e)) (he : P.underlying e = some (.slice q)) (hq : P.underlying q = some (.int .u8)) (ce : P.cellsOf e = 1) (cq : P.cellsOf q = 1)
    (h : DataW.trod enc P w base (fun _ => true) held fuel t [v] = some x) : ∃ a len cap rs, v = .slice a len cap ∧ IsPcs w a len cap rs := by
  rcases Go.Deep.open_int_rows ht he hq ce cq h with ⟨hcs, _⟩ | ⟨a, len, cap, A, L, C, Z, hcs, _, hl, hm, _, hr⟩
  · simp at hcs
    exact ⟨none, 0, 0, [], hcs, Nat.le_refl _, Nat.zero_le _, rfl, .inl rfl, by simp⟩
  · simp at hcs
    refine ⟨some a, len, cap, (List.range len).map (fun r => ⟨A r, C r, (Z r).take (L r)⟩), hcs, hl, hm, by simp, ?_, ?_⟩
    · by_cases h0 : len = 0
      · exact .inl (by simpa using h0)
      · obtain ⟨b, off, spot⟩ := a
        have h1 := (hr 0 (by omega)).1
        have hspot : spot = none := by simpa [Addr.add] using World.cell?_spot h1
        subst hspot
        refine .inr ⟨b, off, rfl, block_lt_of_cell h1, fun i hi => ?_⟩
        simp only [List.length_map, List.length_range] at hi
        obtain ⟨c1, c2, c3, c4, _⟩ := hr i (by omega)
        have hlen : ((Z i).take (L i)).length = L i := by simp; omega
        simp only [List.getElem_map, List.getElem_range, hlen]
        by_cases hi0 : i = 0
        · subst hi0; simpa [Addr.add] using c1
        · simpa [Addr.add, hi0] using c1
    · intro r hmem
      simp only [List.mem_map, List.mem_range] at hmem
      obtain ⟨i, hi, rfl⟩ := hmem
      obtain ⟨c1, c2, c3, c4, c5, c6, c7⟩ := hr i (by omega)
      have hlen : ((Z i).take (L i)).length = L i := by simp; omega
      refine ⟨?_, by simp only [hlen]; exact c2, c3⟩
      have hrow : IsRow .u8 w (A i) (L i) (C i) (Z i) := by
        cases hA : A i with
        | none =>
          have hc0 := c6 hA
          exact .inl ⟨rfl, by omega, hc0, List.eq_nil_of_length_eq_zero (by omega)⟩
        | some x => exact .inr ⟨x, rfl, c2, c3, c4, fun j hj => (c7 x hA).2 j (by omega), c5⟩
      have := Has.of_row hrow
      simp only [hlen]
      exact this

/-- The fault of a list of pieces. -/
def pcF (rs : List Pc) : Int := if 24 < rs.length then 2 else if rs.all (fun r => decide (r.zs.length ≤ 250)) = true then 0 else 2

theorem all_take_succ {rs : List Pc} {k : Nat} (h : k < rs.length) (f : Pc → Bool) : (rs.take (k + 1)).all f = ((rs.take k).all f && f rs[k]) := by
  rw [List.take_succ_eq_append_getElem h, List.all_append]; simp

set_option maxHeartbeats 1000000 in
theorem l6Fault_any (a : Option Addr) (c : Nat) (rs : List Pc) (w : World) (h : HasP w a rs) (hl : rs.length ≤ 1048576) (hz : ∀ r ∈ rs, r.zs.length ≤ 1048576) :
    Calls Tryd.prog 64 #[.slice a rs.length c] w fun r w' => r = .returned (.int .i64 (pcF rs)) ∧ Below w.heap.size w w' := by
  have HF : Hid (pcF rs = if 24 < rs.length then 2 else if rs.all (fun r => decide (r.zs.length ≤ 250)) = true then 0 else 2) := rfl
  generalize pcF rs = cc at *
  by_cases h24 : 24 < rs.length
  · have h24' : (24 : Int) < (rs.length : Int) := by omega
    go_enter Tryd.func64, Tryd.ntmps64
    go_wp2
    go_ret
    exact ⟨ret_int (by rw [HF.out, if_pos h24]), Below.refl _ _⟩
  · have h24' : ¬ (24 : Int) < (rs.length : Int) := by omega
    rcases h.1 with h0 | ⟨b1, o1, rfl, hlt1, hc1⟩
    · obtain rfl : rs = [] := List.eq_nil_of_length_eq_zero h0
      have HF2 : Hid (cc = 0) := HF.out
      simp only [List.length_nil] at *
      go_enter Tryd.func64, Tryd.ntmps64
      go_wp2
      refine wp_loop_rounds 1 ?_
      rw [rounds_succ]
      go_wp2
      go_ret
      exact ⟨ret_int HF2.out.symm, Below.refl _ _⟩
    · go_enter Tryd.func64, Tryd.ntmps64
      go_wp2
      go_loopw [3] (fun i wr => ∃ k n : Nat, k ≤ rs.length ∧ (rs.take k).all (fun r => decide (r.zs.length ≤ 250)) = true ∧ i = .int .i64 k ∧ wr = w.drewN n) (fun i _ => rs.length - (intOf i).toNat)
      case atStart => exact ⟨0, 0, Nat.zero_le _, by simp, rfl, rfl⟩
      case round =>
        obtain ⟨k, n, hk, hall, rfl, rfl⟩ := hrel
        have HA : Hid ((rs.take k).all (fun r => decide (r.zs.length ≤ 250)) = true) := hall
        clear hall
        by_cases hlt : k < rs.length
        · have hlt' : (k : Int) < (rs.length : Int) := by omega
          have e1 := hc1 k hlt
          have hzk := hz rs[k] (List.getElem_mem hlt)
          have HS : Hid ((rs.take (k + 1)).all (fun r => decide (r.zs.length ≤ 250)) = ((rs.take k).all (fun r => decide (r.zs.length ≤ 250)) && decide (rs[k].zs.length ≤ 250))) := all_take_succ hlt _
          by_cases hb : 250 < rs[k].zs.length
          · have hb' : (250 : Int) < (rs[k].zs.length : Int) := by omega
            have HN : Hid (rs.all (fun r => decide (r.zs.length ≤ 250)) = false) := by
              show _ = _
              rw [List.all_eq_false]
              exact ⟨rs[k], List.getElem_mem hlt, by simp; omega⟩
            go_wp2
            go_ret
            refine ⟨ret_int ?_, below_drewN (Below.refl _ _) _⟩
            rw [HF.out, if_neg h24, HN.out]
            rfl
          · have hb' : ¬ (250 : Int) < (rs[k].zs.length : Int) := by omega
            go_wp2
            go_roundw
            case rel => exact ⟨k + 1, _, by omega, by rw [HS.out, HA.out]; simp; omega, by go_num, rfl⟩
            case measure => simp [intOf]; omega
        · go_wp2
          go_ret
          refine ⟨ret_int ?_, below_drewN (Below.refl _ _) _⟩
          have := HA.out
          rw [List.take_of_length_le (by omega)] at this
          rw [HF.out, if_neg h24, this]
          rfl

end Go.Proofs.YtklhkhlmhddmcaaDoor

namespace Go.Proofs.YtklhkhlmhddmcaaDoor
open Go.ChangeShapes Go.WideShapes Go.ChangeAt Go.RowKit
set_option linter.unusedVariables false
set_option linter.unusedSimpArgs false

/-- How many bytes all pieces have. -/
def sumZ : List Pc → Nat
  | [] => 0
  | r :: rs => r.zs.length + sumZ rs
theorem sumZ_app (xs ys : List Pc) : sumZ (xs ++ ys) = sumZ xs + sumZ ys := by
  induction xs with
  | nil => simp [sumZ]
  | cons x xs ih => simp only [List.cons_append, sumZ, ih]; omega
theorem sumZ_succ {rs : List Pc} {k : Nat} (h : k < rs.length) : sumZ (rs.take (k + 1)) = sumZ (rs.take k) + rs[k].zs.length := by
  rw [List.take_succ_eq_append_getElem h, sumZ_app]
  rfl
theorem sumZ_le (rs : List Pc) (k : Nat) : sumZ (rs.take k) ≤ sumZ rs := by
  have h2 := sumZ_app (rs.take k) (rs.drop k)
  rw [List.take_append_drop] at h2
  omega
theorem sumZ_mem {rs : List Pc} {r : Pc} (h : r ∈ rs) : r.zs.length ≤ sumZ rs := by
  induction rs with
  | nil => cases h
  | cons x xs ih =>
    simp at h
    simp only [sumZ]
    rcases h with rfl | h
    · omega
    · have := ih h; omega
/-- What is left of a measure. -/
def szV (n : Int) (rs : List Pc) : Int := if n - rs.length - sumZ rs < 0 then -1 else n - rs.length - sumZ rs

set_option maxHeartbeats 1000000 in
theorem szByteSS_any (a : Option Addr) (c : Nat) (rs : List Pc) (n : Int) (w : World) (h : HasP w a rs) (hl : rs.length ≤ maxLen) (hn : 0 ≤ n) (hn2 : n ≤ 1048576) :
    Calls Tryd.prog 34 #[.slice a rs.length c, .int .i64 n] w fun r w' => r = .returned (.int .i64 (szV n rs)) ∧ Below w.heap.size w w' := by
  unfold maxLen at hl
  have HF : Hid (szV n rs = if n - rs.length - sumZ rs < 0 then -1 else n - rs.length - sumZ rs) := rfl
  generalize szV n rs = cc at *
  by_cases hbig : n - (rs.length : Int) < 0
  · go_enter Tryd.func34, Tryd.ntmps34
    go_wp2
    go_ret
    exact ⟨ret_int (by rw [HF.out, if_pos (by omega)]), Below.refl _ _⟩
  · have hbig' : 0 ≤ n - (rs.length : Int) := by omega
    rcases h.1 with h0 | ⟨b1, o1, rfl, hlt1, hc1⟩
    · obtain rfl : rs = [] := List.eq_nil_of_length_eq_zero h0
      simp only [List.length_nil] at *
      go_enter Tryd.func34, Tryd.ntmps34
      go_wp2
      refine wp_loop_rounds 1 ?_
      rw [rounds_succ]
      go_wp2
      go_ret
      refine ⟨ret_int ?_, Below.refl _ _⟩
      rw [HF.out]
      simp [sumZ] at *
      omega
    · go_enter Tryd.func34, Tryd.ntmps34
      go_wp2
      go_loopw [1, 5] (fun l i wr => ∃ k : Nat, k ≤ rs.length ∧ 0 ≤ n - (rs.length : Int) - sumZ (rs.take k) ∧ l = .int .i64 (n - rs.length - sumZ (rs.take k)) ∧ i = .int .i64 k ∧ wr = w) (fun _ i _ => rs.length - (intOf i).toNat)
      case atStart => exact ⟨0, Nat.zero_le _, by simpa [sumZ] using hbig', by simp [sumZ], rfl, rfl⟩
      case round =>
        obtain ⟨k, hk, hpos, rfl, rfl, hwr⟩ := hrel
        have hwr2 := hwr.symm
        subst hwr2
        clear hwr
        have hle := sumZ_le rs k
        by_cases hlt : k < rs.length
        · have hlt' : (k : Int) < (rs.length : Int) := by omega
          have e1 := hc1 k hlt
          have hrk := h.2 rs[k] (List.getElem_mem hlt)
          have hs := sumZ_succ hlt
          have hle2 := sumZ_le rs (k + 1)
          have hm2 := hrk.2
          unfold maxLen at hm2
          have SZ : Hid (∀ u : World, Calls Tryd.prog 90 #[.slice rs[k].ad rs[k].zs.length rs[k].cap, .int .i64 (n - rs.length - sumZ (rs.take k))] u fun r w' => r = .returned (.int .i64 (if n - rs.length - sumZ (rs.take (k + 1)) < 0 then -1 else n - rs.length - sumZ (rs.take (k + 1)))) ∧ w' = u) := by
            intro u
            have := szByteS_any rs[k].ad rs[k].zs.length rs[k].cap (n - rs.length - sumZ (rs.take k)) u (by omega) (by omega) (by omega)
            have e : n - (rs.length : Int) - sumZ (rs.take k) - (rs[k].zs.length : Int) = n - rs.length - sumZ (rs.take (k + 1)) := by rw [hs]; omega
            rw [e] at this
            exact this
          obtain ⟨S1, hS1⟩ : ∃ S, sumZ (rs.take (k + 1)) = S := ⟨_, rfl⟩
          rw [hS1] at SZ hs hle2
          have HS1 : Hid (sumZ (rs.take (k + 1)) = S1) := hS1
          clear hS1
          by_cases hneg : n - (rs.length : Int) - S1 < 0
          · rw [if_pos hneg] at SZ
            go_wp2_with (go_at_call 90; refine (SZ.out _).mono ?_; rintro r u ⟨rfl, rfl⟩)
            go_ret
            exact ⟨ret_int (by rw [HF.out, if_pos (by omega)]), Below.refl _ _⟩
          · rw [if_neg hneg] at SZ
            have hneg' : 0 ≤ n - (rs.length : Int) - S1 := by omega
            go_wp2_with (go_at_call 90; refine (SZ.out _).mono ?_; rintro r u ⟨rfl, rfl⟩)
            go_roundw
            case rel => exact ⟨k + 1, by omega, by rw [HS1.out]; omega, by rw [HS1.out]; congr 1; omega, by go_num, by first | rfl | trivial⟩
            case measure => simp [intOf]; omega
        · have hkk : k = rs.length := by omega
          have HK : Hid (sumZ (rs.take k) = sumZ rs) := by
            show _ = _
            rw [hkk, List.take_length]
          generalize sumZ (rs.take k) = S1 at *
          go_wp2
          go_ret
          refine ⟨ret_int ?_, Below.refl _ _⟩
          have := HK.out
          rw [HF.out, if_neg (by omega)]
          omega

theorem infoSS : (Tryd.prog.info? 22).map (fun i => (i.zero, i.size, i.bytes)) = some (some (.slice none 0 0), 1, 24) := by kernel_rfl
/-- The cells of a list of pieces, those that are there and nothing behind them. -/
def partR (rs : List Pc) (gs : List Nat) : List Value := List.zipWith (fun (g : Nat) (r : Pc) => Value.slice (some ⟨g, 0, none⟩) r.zs.length r.zs.length) gs rs ++ List.replicate (rs.length - gs.length) (.slice none 0 0)
theorem partR_len (rs : List Pc) (gs : List Nat) (h : gs.length ≤ rs.length) : (partR rs gs).length = rs.length := by unfold partR; simp; omega
theorem partR_zero (rs : List Pc) : (madeCells (Value.slice none 0 0).cells (rs.length * 1)).toList = partR rs [] := by
  unfold partR madeCells
  simp [Value.cells]
  rw [List.eq_replicate_iff]
  exact ⟨by simp, fun b hb => by simp [Nat.mod_one] at hb; exact hb.2.symm⟩
theorem partR_cell (rs : List Pc) (gs : List Nat) (h : gs.length < rs.length) : (partR rs gs)[gs.length]? = some (.slice none 0 0) := by
  unfold partR
  rw [List.getElem?_append_right (by simp; omega)]
  simp [List.getElem?_replicate]
  omega
theorem partR_set (rs : List Pc) (gs : List Nat) (g : Nat) (h : gs.length < rs.length) : (partR rs gs).set gs.length (.slice (some ⟨g, 0, none⟩) (rs[gs.length]).zs.length (rs[gs.length]).zs.length) = partR rs (gs ++ [g]) := by
  unfold partR
  have hl : (List.zipWith (fun (g : Nat) (r : Pc) => Value.slice (some ⟨g, 0, none⟩) r.zs.length r.zs.length) gs rs).length = gs.length := by simp; omega
  have hr : rs.length - gs.length = (rs.length - (gs.length + 1)) + 1 := by omega
  rw [List.set_append_right _ _ (by omega), hl, Nat.sub_self, hr, List.replicate_succ, List.set_cons_zero]
  have hz : List.zipWith (fun (g : Nat) (r : Pc) => Value.slice (some ⟨g, 0, none⟩) r.zs.length r.zs.length) (gs ++ [g]) rs = List.zipWith (fun (g : Nat) (r : Pc) => Value.slice (some ⟨g, 0, none⟩) r.zs.length r.zs.length) gs rs ++ [.slice (some ⟨g, 0, none⟩) (rs[gs.length]).zs.length (rs[gs.length]).zs.length] := by
    conv => lhs; rw [← List.take_append_drop gs.length rs]
    rw [List.zipWith_append (by simp; omega)]
    congr 1
    · conv => rhs; rw [← List.take_append_drop gs.length rs]
      rw [show gs = gs ++ [] by simp, List.zipWith_append (by simp; omega)]
      simp
    · rw [List.drop_eq_getElem_cons h]; rfl
  rw [hz, List.append_assoc, List.length_append]
  rfl
/-- A list of pieces in memory of its own: where its rows lie. -/
structure OwnP (w : World) (base g : Nat) (rs : List Pc) (gs : List Nat) : Prop where
  out : w.ownsRow base 22 1 (.slice (some ⟨g, 0, none⟩) rs.length rs.length) rs.length (partR rs gs)
  row : ∀ i (h : i < gs.length) (h2 : i < rs.length), w.ownsRow base 5 1 (.slice (some ⟨gs[i], 0, none⟩) (rs[i]).zs.length (rs[i]).zs.length) (rs[i]).zs.length ((rs[i]).zs.map (.int .u8))
  up : ∀ x ∈ gs, g < x
  ord : gs.Pairwise (· < ·)

end Go.Proofs.YtklhkhlmhddmcaaDoor

namespace Go.Proofs.YtklhkhlmhddmcaaDoor
open Go.ChangeShapes Go.WideShapes Go.ChangeAt Go.RowKit
set_option linter.unusedVariables false
set_option linter.unusedSimpArgs false

theorem own_other {w : World} {base e n x c : Nat} {xs : List Value} {p : Addr} (u : Value) (h : w.ownsRow base e 1 (.slice (some ⟨x, 0, none⟩) n c) n xs) (hne : x ≠ p.block) : (w.setCell p u).ownsRow base e 1 (.slice (some ⟨x, 0, none⟩) n c) n xs := by
  refine ⟨h.1, h.2.imp id ?_⟩
  rintro ⟨g, cap, cur, e1, e2, e3, e4⟩
  have e5 := e1
  simp at e5
  exact ⟨g, cap, cur, e1, e2, (Below.heap_setCell _ _ _ g (by rw [← e5.1]; exact hne)).trans e3, e4⟩
theorem OwnP.below {w w' : World} {base g : Nat} {rs : List Pc} {gs : List Nat} (h : OwnP w base g rs gs) (hb : Below w.heap.size w w') : OwnP w' base g rs gs := ⟨own_below h.out hb, fun i h1 h2 => own_below (h.row i h1 h2) hb, h.up, h.ord⟩
theorem OwnP.row_lt {w : World} {base g : Nat} {rs : List Pc} {gs : List Nat} (h : OwnP w base g rs gs) (hl : gs.length ≤ rs.length) : ∀ x ∈ gs, base ≤ x ∧ x < w.heap.size := by
  intro x hx
  obtain ⟨i, hi, rfl⟩ := List.getElem_of_mem hx
  exact (h.row i hi (by omega)).lt gs[i] rfl
/-- One row more. -/
theorem OwnP.more {w w1 : World} {base g : Nat} {rs : List Pc} {gs : List Nat} (h : OwnP w base g rs gs) (hlt : gs.length < rs.length) (hb : Below w.heap.size w w1) (hbase : base ≤ w.heap.size)
    (ho : w1.ownsRow w.heap.size 5 1 (.slice (some ⟨w.heap.size, 0, none⟩) (rs[gs.length]).zs.length (rs[gs.length]).zs.length) (rs[gs.length]).zs.length ((rs[gs.length]).zs.map (.int .u8))) :
    OwnP (w1.setCell ⟨g, gs.length, none⟩ (.slice (some ⟨w.heap.size, 0, none⟩) (rs[gs.length]).zs.length (rs[gs.length]).zs.length)) base g rs (gs ++ [w.heap.size]) := by
  have hg := (h.out.lt g rfl).2
  have hrl := h.row_lt (by omega)
  refine ⟨?_, ?_, ?_, ?_⟩
  · have := ((own_below h.out hb).stored gs.length (.slice (some ⟨w.heap.size, 0, none⟩) (rs[gs.length]).zs.length (rs[gs.length]).zs.length)).1
    rw [partR_set rs gs _ hlt] at this
    exact this
  · intro i hi hi2
    simp only [List.length_append, List.length_cons, List.length_nil] at hi
    by_cases hk : i < gs.length
    · have e : (gs ++ [w.heap.size])[i]'(by simp; omega) = gs[i] := List.getElem_append_left hk
      rw [e]
      exact own_other _ (own_below (h.row i hk hi2) hb) (by show gs[i] ≠ g; have := h.up gs[i] (List.getElem_mem hk); omega)
    · obtain rfl : i = gs.length := by omega
      have e : (gs ++ [w.heap.size])[gs.length]'(by simp) = w.heap.size := by simp
      rw [e]
      exact own_other _ (own_mono ho hbase) (by show w.heap.size ≠ g; omega)
  · intro x hx
    simp at hx
    rcases hx with hx | rfl
    · exact h.up x hx
    · exact hg
  · rw [List.pairwise_append]
    refine ⟨h.ord, by simp, ?_⟩
    intro x hx y hy
    simp at hy
    subst hy
    exact (hrl x hx).2

set_option maxHeartbeats 2000000 in
theorem toByteSS_any (a : Option Addr) (c : Nat) (rs : List Pc) (w : World) (h : HasP w a rs) (hl : rs.length ≤ 1048576) (hz : ∀ r ∈ rs, r.zs.length ≤ 1048576) :
    Calls Tryd.prog 35 #[.slice a rs.length c] w fun r w' => ∃ gs, gs.length = rs.length ∧ r = .returned (.slice (some ⟨w.heap.size, 0, none⟩) rs.length rs.length) ∧ OwnP w' w.heap.size w.heap.size rs gs ∧ Below w.heap.size w w' := by
  obtain ⟨i0, hi, hz0, hz1, hz2⟩ := info_parts infoSS
  have PZ : Hid ((madeCells (Value.slice none 0 0).cells (rs.length * 1)).toList = partR rs []) := partR_zero rs
  rcases h.1 with h0 | ⟨b, off, rfl, hb, hcell⟩
  · obtain rfl : rs = [] := List.eq_nil_of_length_eq_zero h0
    simp only [List.length_nil] at *
    go_enter Tryd.func35, Tryd.ntmps35
    go_wp2_with (at_make; refine wpList_make_full _ rfl _ _ 24 rfl w.heap.size 22 i0 (.slice none 0 0) 1 Tryd.underlying24 hi hz0 hz1 _ _ _ _ 0 rfl rfl rfl rfl (by rw [hz2]; omega) (by unfold maxLen; omega) (Nat.le_refl _) ?_; intro w1 hown hgrow)
    have hbel : Below w.heap.size w w1 := (Below.refl _ _).grown hgrow (Nat.le_refl _) (by intro k hk; cases hk)
    clear hgrow
    rw [PZ.out] at hown
    refine wp_loop_rounds 1 ?_
    rw [rounds_succ]
    go_wp2
    go_ret
    exact ⟨[], rfl, rfl, ⟨hown, fun i h1 h2 => by simp at h1, by simp, by simp⟩, hbel⟩
  · go_enter Tryd.func35, Tryd.ntmps35
    go_wp2_with (at_make; refine wpList_make_full _ rfl _ _ 24 rfl w.heap.size 22 i0 (.slice none 0 0) 1 Tryd.underlying24 hi hz0 hz1 _ _ _ _ rs.length rfl rfl rfl rfl (by rw [hz2]; omega) (by unfold maxLen; omega) (Nat.le_refl _) ?_; intro w1 hown hgrow)
    rw [PZ.out] at hown
    have hbel : Below w.heap.size w w1 := (Below.refl _ _).grown hgrow (Nat.le_refl _) (by intro k hk; cases hk)
    clear hgrow
    go_loopw [4] (fun i wr => ∃ gs : List Nat, gs.length ≤ rs.length ∧ i = .int .i64 gs.length ∧ OwnP wr w.heap.size w.heap.size rs gs ∧ Below w.heap.size w wr) (fun i _ => rs.length - (intOf i).toNat)
    case atStart => exact ⟨[], Nat.zero_le _, rfl, ⟨hown, fun i h1 h2 => by simp at h1, by simp, by simp⟩, hbel⟩
    case round =>
      clear hown hbel
      obtain ⟨gs, hk, rfl, hown, hbel⟩ := hrel
      by_cases hlt : gs.length < rs.length
      · have hlt' : (gs.length : Int) < (rs.length : Int) := by omega
        have hx : wr.cell? ⟨b, off + gs.length, none⟩ = some (.slice (rs[gs.length]).ad (rs[gs.length]).zs.length (rs[gs.length]).cap) := (hbel.cell (p := ⟨b, off + gs.length, none⟩) hb).trans (hcell gs.length hlt)
        have hrow := h.2 (rs[gs.length]) (List.getElem_mem hlt)
        have hzk := hz (rs[gs.length]) (List.getElem_mem hlt)
        have TB : Hid (Calls Tryd.prog 36 #[.slice (rs[gs.length]).ad (rs[gs.length]).zs.length (rs[gs.length]).cap] wr fun r w' => r = .returned (.slice (some ⟨wr.heap.size, 0, none⟩) (rs[gs.length]).zs.length (rs[gs.length]).zs.length) ∧ w'.ownsRow wr.heap.size 5 1 (.slice (some ⟨wr.heap.size, 0, none⟩) (rs[gs.length]).zs.length (rs[gs.length]).zs.length) (rs[gs.length]).zs.length ((rs[gs.length]).zs.map (.int .u8)) ∧ Below wr.heap.size wr w') := toBytes_any _ _ _ _ wr (hrow.1.below hbel (Nat.le_refl _)) hzk
        have MO : Hid (∀ w1 : World, Below wr.heap.size wr w1 → w1.ownsRow wr.heap.size 5 1 (.slice (some ⟨wr.heap.size, 0, none⟩) (rs[gs.length]).zs.length (rs[gs.length]).zs.length) (rs[gs.length]).zs.length ((rs[gs.length]).zs.map (.int .u8)) → OwnP (w1.setCell ⟨w.heap.size, gs.length, none⟩ (.slice (some ⟨wr.heap.size, 0, none⟩) (rs[gs.length]).zs.length (rs[gs.length]).zs.length)) w.heap.size w.heap.size rs (gs ++ [wr.heap.size])) := fun w1 h1 h2 => hown.more hlt h1 hbel.size h2
        have OUT : Hid (∀ w1 : World, Below wr.heap.size wr w1 → w1.cell? ⟨w.heap.size, gs.length, none⟩ = some (.slice none 0 0) ∧ w1.frozen? ⟨w.heap.size, gs.length, none⟩ = false) := fun w1 h1 => ⟨((own_below hown.out h1).cellAt gs.length (by omega)).trans (partR_cell rs gs hlt), (own_below hown.out h1).frozenAt gs.length⟩
        clear hown hcell hrow h
        go_wp2_with fail
        refine TB.out.mono ?_
        rintro r u1 ⟨rfl, O1, hb1⟩
        obtain ⟨x1, x2⟩ := OUT.out u1 hb1
        have M1 := MO.out u1 hb1 O1
        have HM : Hid (OwnP (u1.setCell ⟨w.heap.size, gs.length, none⟩ (.slice (some ⟨wr.heap.size, 0, none⟩) (rs[gs.length]).zs.length (rs[gs.length]).zs.length)) w.heap.size w.heap.size rs (gs ++ [wr.heap.size])) := M1
        have B1 := hbel.trans (hb1.mono hbel.size)
        clear M1 O1 MO OUT TB hx
        go_wp2
        go_roundw
        case rel => exact ⟨gs ++ [wr.heap.size], by simp; omega, by simp, HM.out, B1.setCell (Nat.le_refl _) _⟩
        case measure => simp [intOf]; omega
      · have hkk : gs.length = rs.length := by omega
        have HK : Hid (gs.length = rs.length) := hkk
        clear hkk
        go_wp2
        go_ret
        exact ⟨gs, HK.out, rfl, hown, hbel⟩

/-- The copy of a list of pieces, as one that is read. -/
def copyP (rs : List Pc) (gs : List Nat) : List Pc := List.zipWith (fun (g : Nat) (r : Pc) => ⟨some ⟨g, 0, none⟩, r.zs.length, r.zs⟩) gs rs
theorem copyP_len {rs : List Pc} {gs : List Nat} (h : gs.length = rs.length) : (copyP rs gs).length = rs.length := by unfold copyP; simp [h]
theorem copyP_get {rs : List Pc} {gs : List Nat} (h : gs.length = rs.length) (i : Nat) (hi : i < (copyP rs gs).length) : (copyP rs gs)[i] = ⟨some ⟨gs[i]'(by rw [copyP_len h] at hi; omega), 0, none⟩, (rs[i]'(by rw [copyP_len h] at hi; exact hi)).zs.length, (rs[i]'(by rw [copyP_len h] at hi; exact hi)).zs⟩ := by
  exact List.getElem_zipWith ..
theorem copyP_zs {rs : List Pc} {gs : List Nat} (h : gs.length = rs.length) : (copyP rs gs).map Pc.zs = rs.map Pc.zs := by
  refine List.ext_getElem (by simp [copyP_len h]) fun i h1 h2 => ?_
  simp only [List.getElem_map]
  rw [copyP_get h i (by simpa using h1)]
theorem zs_get {rs qs : List Pc} (h : qs.map Pc.zs = rs.map Pc.zs) (i : Nat) (hi : i < rs.length) (hj : i < qs.length) : qs[i].zs = rs[i].zs := by
  have := congrArg (fun l : List (List Int) => l[i]?) h
  simp only [List.getElem?_map, List.getElem?_eq_getElem hi, List.getElem?_eq_getElem hj, Option.map_some, Option.some.injEq] at this
  exact this
theorem zs_len {rs qs : List Pc} (h : qs.map Pc.zs = rs.map Pc.zs) : qs.length = rs.length := by
  have := congrArg List.length h
  simpa using this
theorem zs_mem {rs qs : List Pc} (h : qs.map Pc.zs = rs.map Pc.zs) {P : List Int → Prop} (hp : ∀ r ∈ rs, P r.zs) : ∀ r ∈ qs, P r.zs := by
  intro r hr
  have h1 : r.zs ∈ qs.map Pc.zs := List.mem_map_of_mem hr
  rw [h] at h1
  obtain ⟨r', hr', e⟩ := List.mem_map.1 h1
  rw [← e]
  exact hp r' hr'
theorem pcF_zs {rs qs : List Pc} (h : qs.map Pc.zs = rs.map Pc.zs) : pcF qs = pcF rs := by
  have e : ∀ l : List Pc, l.all (fun r => decide (r.zs.length ≤ 250)) = (l.map Pc.zs).all (fun z => decide (z.length ≤ 250)) := fun l => by rw [List.all_map]; rfl
  unfold pcF
  rw [zs_len h, e, e, h]
theorem OwnP.has {w : World} {base g : Nat} {rs : List Pc} {gs : List Nat} (h : OwnP w base g rs gs) (hl : gs.length = rs.length) (hw : ∀ r ∈ rs, (∀ n ∈ r.zs, (Lit.int .u8 n).wf = true) ∧ r.zs.length ≤ maxLen) : HasP w (some ⟨g, 0, none⟩) (copyP rs gs) := by
  refine ⟨?_, ?_⟩
  · refine .inr ⟨g, 0, rfl, (h.out.lt g rfl).2, fun i hi => ?_⟩
    have hi' : i < rs.length := by rw [copyP_len hl] at hi; exact hi
    rw [Nat.zero_add, h.out.cellAt i (by omega), copyP_get hl i hi]
    unfold partR
    rw [List.getElem?_append_left (by simp; omega), List.getElem?_eq_getElem (by simp; omega), List.getElem_zipWith]
  · intro r hr
    obtain ⟨i, hi, rfl⟩ := List.getElem_of_mem hr
    have hi' : i < rs.length := by rw [copyP_len hl] at hi; exact hi
    rw [copyP_get hl i hi]
    have hm := hw rs[i] (List.getElem_mem hi')
    have ho := h.row i (by omega) hi'
    refine ⟨Has.of_own ho (ho.lt _ rfl).2 hm.1, Nat.le_refl _, hm.2⟩

set_option maxHeartbeats 2000000 in
theorem eqByteSS_any (a b : Option Addr) (ca cb : Nat) (rs qs : List Pc) (w : World) (ha : HasP w a rs) (hb : HasP w b qs) (he : qs.map Pc.zs = rs.map Pc.zs) (hl : rs.length ≤ 1048576) (hz : ∀ r ∈ rs, r.zs.length ≤ 1048576) :
    Calls Tryd.prog 39 #[.slice a rs.length ca, .slice b qs.length cb] w fun r w' => r = .returned (.bool true) ∧ Below w.heap.size w w' := by
  have hle := zs_len he
  rw [hle]
  have hll : ((rs.length : Int) != (rs.length : Int)) = false := by simp
  have hA := ha.1
  have hB := hb.1
  rcases hA with h0 | ⟨b1, o1, rfl, hb1, hc1⟩
  · obtain rfl : rs = [] := List.eq_nil_of_length_eq_zero h0
    simp only [List.length_nil] at *
    clear hB
    go_enter Tryd.func39, Tryd.ntmps39
    go_wp2
    refine wp_loop_rounds 1 ?_
    rw [rounds_succ]
    go_wp2
    go_ret
    exact ⟨rfl, Below.refl _ _⟩
  · rcases hB with h0 | ⟨b2, o2, rfl, hb2, hc2⟩
    · obtain rfl : rs = [] := List.eq_nil_of_length_eq_zero (by omega)
      simp only [List.length_nil] at *
      clear hc1
      go_enter Tryd.func39, Tryd.ntmps39
      go_wp2
      refine wp_loop_rounds 1 ?_
      rw [rounds_succ]
      go_wp2
      go_ret
      exact ⟨rfl, Below.refl _ _⟩
    · go_enter Tryd.func39, Tryd.ntmps39
      go_wp2
      go_loopw [5] (fun i wr => ∃ k : Nat, k ≤ rs.length ∧ i = .int .i64 k ∧ Below w.heap.size w wr) (fun i _ => rs.length - (intOf i).toNat)
      case atStart => exact ⟨0, Nat.zero_le _, rfl, Below.refl _ _⟩
      case round =>
        obtain ⟨k, hk, rfl, hbel⟩ := hrel
        by_cases hlt : k < rs.length
        · have hlt' : (k : Int) < (rs.length : Int) := by omega
          have hlq : k < qs.length := by omega
          have ez : qs[k].zs = rs[k].zs := zs_get he k hlt hlq
          have r1 := ha.2 rs[k] (List.getElem_mem hlt)
          have r2 := hb.2 qs[k] (List.getElem_mem hlq)
          have e1 : wr.cell? ⟨b1, o1 + k, none⟩ = some (.slice rs[k].ad rs[k].zs.length rs[k].cap) := (hbel.cell (p := ⟨b1, o1 + k, none⟩) hb1).trans (hc1 k hlt)
          have e2 : wr.cell? ⟨b2, o2 + k, none⟩ = some (.slice qs[k].ad rs[k].zs.length qs[k].cap) := (hbel.cell (p := ⟨b2, o2 + k, none⟩) hb2).trans (by rw [hc2 k (by omega), ez])
          rw [ez] at r2
          have hne : Nonempty (KeptW wr) := ⟨⟨_, Below.refl _ _⟩⟩
          have K1 := KeptW.cell e1 (Nat.lt_of_lt_of_le hb1 hbel.size)
          have K2 := KeptW.cell e2 (Nat.lt_of_lt_of_le hb2 hbel.size)
          have EQ : Hid (∀ d : KeptW wr, Calls Tryd.prog 40 #[.slice rs[k].ad rs[k].zs.length rs[k].cap, .slice qs[k].ad rs[k].zs.length qs[k].cap] d.wd fun r w' => r = .returned (.bool true) ∧ Below d.wd.heap.size d.wd w') := fun d => eqBytes_any _ _ _ _ rs[k].zs d.wd ((r1.1.below hbel (Nat.le_refl _)).below d.hb (Nat.le_refl _)) ((r2.1.below hbel (Nat.le_refl _)).below d.hb (Nat.le_refl _)) (hz _ (List.getElem_mem hlt))
          clear r1 r2 ez e1 e2 hc1 hc2 ha hb
          go_wp2_with fail
          refine wp_region_kept (by kernel_rfl) (by kernel_rfl) ?_
          repeat (go_big_quiet_step ((go_at_call 40; exact KeptW.calls (EQ.out _))))
          refine wpQuiet_nil ?_
          rintro _ ⟨d, rfl⟩
          go_wp2
          go_roundw
          case rel => exact ⟨k + 1, by omega, by go_num, hbel.trans (d.hb.mono hbel.size)⟩
          case measure => simp [intOf]; omega
        · go_wp2
          go_ret
          exact ⟨rfl, hbel⟩

end Go.Proofs.YtklhkhlmhddmcaaDoor
