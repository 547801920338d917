/- Lists of pieces: slices of slices of bytes that are read; how one that came in is opened; how much they have; the model's fault of them. -/
import Derived.Test.YtnlipmfhilgipabBytes
import Derived.Test.YtnlipmfhilgipabToClash
import Derived.Deep.Matrix
namespace Go.Proofs.Ytnlipmfhilgipab
open Go.ChangeShapes Go.WideShapes Go.ChangeAt Go.RowKit
set_option linter.unusedVariables false
set_option linter.unusedSimpArgs false

/-- A piece of a list: where it lies, what room it has, its bytes. -/
structure Pc where
  ad : Option Addr
  cap : Nat
  zs : List Int
/-- A slice of slices of bytes that is only read. -/
def HasP (w : World) (a : Option Addr) (rs : List Pc) : Prop :=
  (rs.length = 0 ∨ ∃ b off, a = some ⟨b, off, none⟩ ∧ b < w.heap.size ∧ ∀ i (h : i < rs.length), w.cell? ⟨b, off + i, none⟩ = some (.slice rs[i].ad rs[i].zs.length rs[i].cap)) ∧
  ∀ r ∈ rs, Has w .u8 r.ad r.zs.length r.zs ∧ r.zs.length ≤ r.cap ∧ r.cap ≤ maxLen
theorem HasP.below {w w' : World} {a : Option Addr} {rs : List Pc} (h : HasP w a rs) {B : Nat} (hb : Below B w w') (hB : w.heap.size ≤ B) : HasP w' a rs := by
  refine ⟨?_, fun r hr => ⟨(h.2 r hr).1.below hb hB, (h.2 r hr).2⟩⟩
  rcases h.1 with h0 | ⟨b, off, ha, hlt, hc⟩
  · exact .inl h0
  · exact .inr ⟨b, off, ha, Nat.lt_of_lt_of_le hlt hb.size, fun i hi => (hb.cell (p := ⟨b, off + i, none⟩) (Nat.lt_of_lt_of_le hlt hB)).trans (hc i hi)⟩
theorem HasP.alloc {w : World} {a : Option Addr} {rs : List Pc} (h : HasP w a rs) (O : Obj) : HasP (w.alloc O) a rs := h.below ((Below.refl _ _).alloc (Nat.le_refl _) O) (Nat.le_refl _)
/-- A slice of slices of bytes that came in. -/
def IsPcs (w : World) (a : Option Addr) (len cap : Nat) (rs : List Pc) : Prop := len ≤ cap ∧ cap ≤ maxLen ∧ rs.length = len ∧ HasP w a rs
theorem pcs_of_trod {H : Type} {enc : TypeId × Value → H} {P : Program} {w : World} {base : Nat} {held : Bool} {fuel : Nat} {t e q : TypeId} {v : Value} {x : DataW H × List MemPlace} (ht : P.underlying t = some (.slice e)) (he : P.underlying e = some (.slice q)) (hq : P.underlying q = some (.int .u8)) (ce : P.cellsOf e = 1) (cq : P.cellsOf q = 1)
    (h : DataW.trod enc P w base (fun _ => true) held fuel t [v] = some x) : ∃ a len cap rs, v = .slice a len cap ∧ IsPcs w a len cap rs := by
  rcases Go.Deep.open_int_rows ht he hq ce cq h with ⟨hcs, _⟩ | ⟨a, len, cap, A, L, C, Z, hcs, _, hl, hm, _, hr⟩
  · simp at hcs
    exact ⟨none, 0, 0, [], hcs, Nat.le_refl _, Nat.zero_le _, rfl, .inl rfl, by simp⟩
  · simp at hcs
    refine ⟨some a, len, cap, (List.range len).map (fun r => ⟨A r, C r, (Z r).take (L r)⟩), hcs, hl, hm, by simp, ?_, ?_⟩
    · by_cases h0 : len = 0
      · exact .inl (by simpa using h0)
      · obtain ⟨b, off, spot⟩ := a
        have h1 := (hr 0 (by omega)).1
        have hspot : spot = none := by simpa [Addr.add] using World.cell?_spot h1
        subst hspot
        refine .inr ⟨b, off, rfl, block_lt_of_cell h1, fun i hi => ?_⟩
        simp only [List.length_map, List.length_range] at hi
        obtain ⟨c1, c2, c3, c4, _⟩ := hr i (by omega)
        have hlen : ((Z i).take (L i)).length = L i := by simp; omega
        simp only [List.getElem_map, List.getElem_range, hlen]
        by_cases hi0 : i = 0
        · subst hi0; simpa [Addr.add] using c1
        · simpa [Addr.add, hi0] using c1
    · intro r hmem
      simp only [List.mem_map, List.mem_range] at hmem
      obtain ⟨i, hi, rfl⟩ := hmem
      obtain ⟨c1, c2, c3, c4, c5, c6, c7⟩ := hr i (by omega)
      have hlen : ((Z i).take (L i)).length = L i := by simp; omega
      refine ⟨?_, by simp only [hlen]; exact c2, c3⟩
      have hrow : IsRow .u8 w (A i) (L i) (C i) (Z i) := by
        cases hA : A i with
        | none =>
          have hc0 := c6 hA
          exact .inl ⟨rfl, by omega, hc0, List.eq_nil_of_length_eq_zero (by omega)⟩
        | some x => exact .inr ⟨x, rfl, c2, c3, c4, fun j hj => (c7 x hA).2 j (by omega), c5⟩
      have := Has.of_row hrow
      simp only [hlen]
      exact this

/-- The fault of a list of pieces. -/
def pcF (rs : List Pc) : Int := if 24 < rs.length then 2 else if rs.all (fun r => decide (r.zs.length ≤ 250)) = true then 0 else 2

theorem all_take_succ {rs : List Pc} {k : Nat} (h : k < rs.length) (f : Pc → Bool) : (rs.take (k + 1)).all f = ((rs.take k).all f && f rs[k]) := by
  rw [List.take_succ_eq_append_getElem h, List.all_append]; simp

set_option maxHeartbeats 1000000 in
theorem l6Fault_any (a : Option Addr) (c : Nat) (rs : List Pc) (w : World) (h : HasP w a rs) (hl : rs.length ≤ 1048576) (hz : ∀ r ∈ rs, r.zs.length ≤ 1048576) :
    Calls Try.prog 10 #[.slice a rs.length c] w fun r w' => r = .returned (.int .i64 (pcF rs)) ∧ Below w.heap.size w w' := by
  have HF : Hid (pcF rs = if 24 < rs.length then 2 else if rs.all (fun r => decide (r.zs.length ≤ 250)) = true then 0 else 2) := rfl
  generalize pcF rs = cc at *
  by_cases h24 : 24 < rs.length
  · have h24' : (24 : Int) < (rs.length : Int) := by omega
    go_enter Try.func10, Try.ntmps10
    go_wp2
    go_ret
    exact ⟨ret_int (by rw [HF.out, if_pos h24]), Below.refl _ _⟩
  · have h24' : ¬ (24 : Int) < (rs.length : Int) := by omega
    rcases h.1 with h0 | ⟨b1, o1, rfl, hlt1, hc1⟩
    · obtain rfl : rs = [] := List.eq_nil_of_length_eq_zero h0
      have HF2 : Hid (cc = 0) := HF.out
      simp only [List.length_nil] at *
      go_enter Try.func10, Try.ntmps10
      go_wp2
      refine wp_loop_rounds 1 ?_
      rw [rounds_succ]
      go_wp2
      go_ret
      exact ⟨ret_int HF2.out.symm, Below.refl _ _⟩
    · go_enter Try.func10, Try.ntmps10
      go_wp2
      go_loopw [3] (fun i wr => ∃ k n : Nat, k ≤ rs.length ∧ (rs.take k).all (fun r => decide (r.zs.length ≤ 250)) = true ∧ i = .int .i64 k ∧ wr = w.drewN n) (fun i _ => rs.length - (intOf i).toNat)
      case atStart => exact ⟨0, 0, Nat.zero_le _, by simp, rfl, rfl⟩
      case round =>
        obtain ⟨k, n, hk, hall, rfl, rfl⟩ := hrel
        have HA : Hid ((rs.take k).all (fun r => decide (r.zs.length ≤ 250)) = true) := hall
        clear hall
        by_cases hlt : k < rs.length
        · have hlt' : (k : Int) < (rs.length : Int) := by omega
          have e1 := hc1 k hlt
          have hzk := hz rs[k] (List.getElem_mem hlt)
          have HS : Hid ((rs.take (k + 1)).all (fun r => decide (r.zs.length ≤ 250)) = ((rs.take k).all (fun r => decide (r.zs.length ≤ 250)) && decide (rs[k].zs.length ≤ 250))) := all_take_succ hlt _
          by_cases hb : 250 < rs[k].zs.length
          · have hb' : (250 : Int) < (rs[k].zs.length : Int) := by omega
            have HN : Hid (rs.all (fun r => decide (r.zs.length ≤ 250)) = false) := by
              show _ = _
              rw [List.all_eq_false]
              exact ⟨rs[k], List.getElem_mem hlt, by simp; omega⟩
            go_wp2
            go_ret
            refine ⟨ret_int ?_, below_drewN (Below.refl _ _) _⟩
            rw [HF.out, if_neg h24, HN.out]
            rfl
          · have hb' : ¬ (250 : Int) < (rs[k].zs.length : Int) := by omega
            go_wp2
            go_roundw
            case rel => exact ⟨k + 1, _, by omega, by rw [HS.out, HA.out]; simp; omega, by go_num, rfl⟩
            case measure => simp [intOf]; omega
        · go_wp2
          go_ret
          refine ⟨ret_int ?_, below_drewN (Below.refl _ _) _⟩
          have := HA.out
          rw [List.take_of_length_le (by omega)] at this
          rw [HF.out, if_neg h24, this]
          rfl

end Go.Proofs.Ytnlipmfhilgipab
