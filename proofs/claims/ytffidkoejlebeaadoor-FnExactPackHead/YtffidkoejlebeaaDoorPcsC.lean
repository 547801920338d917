/- Lists of pieces: slices of slices of bytes that are read; how one that came in is opened; how much they have; the model's fault of them. Contracts: lists of pieces measured, copied and held against each other by the laws. Contracts: lists of pieces copied and held against each other by the laws. -/
import Derived.Test.YtffidkoejlebeaaDoorBytes
import Derived.Test.YtffidkoejlebeaaDoorToClash
import Derived.Deep.Matrix
import Derived.Test.YtffidkoejlebeaaDoorKeep
import Derived.Test.YtffidkoejlebeaaDoorMarkI
namespace Go.Proofs.YtffidkoejlebeaaDoor
open Go.ChangeShapes Go.WideShapes Go.ChangeAt Go.RowKit
set_option linter.unusedVariables false
set_option linter.unusedSimpArgs false

/-- A piece of a list: where it lies, what room it has, its bytes. -/
structure Pc where
  ad : Option Addr
  cap : Nat
  zs : List Int
/-- A slice of slices of bytes that is only read. -/
def HasP (w : World) (a : Option Addr) (rs : List Pc) : Prop :=
  (rs.length = 0 ∨ ∃ b off, a = some ⟨b, off, none⟩ ∧ b < w.heap.size ∧ ∀ i (h : i < rs.length), w.cell? ⟨b, off + i, none⟩ = some (.slice rs[i].ad rs[i].zs.length rs[i].cap)) ∧
  ∀ r ∈ rs, Has w .u8 r.ad r.zs.length r.zs ∧ r.zs.length ≤ r.cap ∧ r.cap ≤ maxLen
theorem HasP.below {w w' : World} {a : Option Addr} {rs : List Pc} (h : HasP w a rs) {B : Nat} (hb : Below B w w') (hB : w.heap.size ≤ B) : HasP w' a rs := by
  refine ⟨?_, fun r hr => ⟨(h.2 r hr).1.below hb hB, (h.2 r hr).2⟩⟩
  rcases h.1 with h0 | ⟨b, off, ha, hlt, hc⟩
  · exact .inl h0
  · exact .inr ⟨b, off, ha, Nat.lt_of_lt_of_le hlt hb.size, fun i hi => (hb.cell (p := ⟨b, off + i, none⟩) (Nat.lt_of_lt_of_le hlt hB)).trans (hc i hi)⟩
theorem HasP.alloc {w : World} {a : Option Addr} {rs : List Pc} (h : HasP w a rs) (O : Obj) : HasP (w.alloc O) a rs := h.below ((Below.refl _ _).alloc (Nat.le_refl _) O) (Nat.le_refl _)
/-- A slice of slices of bytes that came in. -/
def IsPcs (w : World) (a : Option Addr) (len cap : Nat) (rs : List Pc) : Prop := len ≤ cap ∧ cap ≤ maxLen ∧ rs.length = len ∧ HasP w a rs
theorem pcs_of_trod {H : Type} {enc : TypeId × Value → H} {P : Program} {w : World} {base : Nat} {held : Bool} {fuel : Nat} {t e q : TypeId} {v : Value} {x : DataW H × List MemPlace} (ht : P.underlying t = some (.slice e)) (he : P.underlying e = some (.slice q)) (hq : P.underlying q = some (.int .u8)) (ce : P.cellsOf e = 1) (cq : P.cellsOf q = 1)
    (h : DataW.trod enc P w base (fun _ => true) held fuel t [v] = some x) : ∃ a len cap rs, v = .slice a len cap ∧ IsPcs w a len cap rs := by
  rcases Go.Deep.open_int_rows ht he hq ce cq h with ⟨hcs, _⟩ | ⟨a, len, cap, A, L, C, Z, hcs, _, hl, hm, _, hr⟩
  · simp at hcs
    exact ⟨none, 0, 0, [], hcs, Nat.le_refl _, Nat.zero_le _, rfl, .inl rfl, by simp⟩
  · simp at hcs
    refine ⟨some a, len, cap, (List.range len).map (fun r => ⟨A r, C r, (Z r).take (L r)⟩), hcs, hl, hm, by simp, ?_, ?_⟩
    · by_cases h0 : len = 0
      · exact .inl (by simpa using h0)
      · obtain ⟨b, off, spot⟩ := a
        have h1 := (hr 0 (by omega)).1
        have hspot : spot = none := by simpa [Addr.add] using World.cell?_spot h1
        subst hspot
        refine .inr ⟨b, off, rfl, block_lt_of_cell h1, fun i hi => ?_⟩
        simp only [List.length_map, List.length_range] at hi
        obtain ⟨c1, c2, c3, c4, _⟩ := hr i (by omega)
        have hlen : ((Z i).take (L i)).length = L i := by simp; omega
        simp only [List.getElem_map, List.getElem_range, hlen]
        by_cases hi0 : i = 0
        · subst hi0; simpa [Addr.add] using c1
        · simpa [Addr.add, hi0] using c1
    · intro r hmem
      simp only [List.mem_map, List.mem_range] at hmem
      obtain ⟨i, hi, rfl⟩ := hmem
      obtain ⟨c1, c2, c3, c4, c5, c6, c7⟩ := hr i (by omega)
      have hlen : ((Z i).take (L i)).length = L i := by simp; omega
      refine ⟨?_, by simp only [hlen]; exact c2, c3⟩
      have hrow : IsRow .u8 w (A i) (L i) (C i) (Z i) := by
        cases hA : A i with
        | none =>
          have hc0 := c6 hA
          exact .inl ⟨rfl, by omega, hc0, List.eq_nil_of_length_eq_zero (by omega)⟩
        | some x => exact .inr ⟨x, rfl, c2, c3, c4, fun j hj => (c7 x hA).2 j (by omega), c5⟩
      have := Has.of_row hrow
      simp only [hlen]
      exact this

/-- The fault of a list of pieces. -/
def pcF (rs : List Pc) : Int := if 24 < rs.length then 2 else if rs.all (fun r => decide (r.zs.length ≤ 250)) = true then 0 else 2

theorem all_take_succ {rs : List Pc} {k : Nat} (h : k < rs.length) (f : Pc → Bool) : (rs.take (k + 1)).all f = ((rs.take k).all f && f rs[k]) := by
  rw [List.take_succ_eq_append_getElem h, List.all_append]; simp

end Go.Proofs.YtffidkoejlebeaaDoor

namespace Go.Proofs.YtffidkoejlebeaaDoor
open Go.ChangeShapes Go.WideShapes Go.ChangeAt Go.RowKit
set_option linter.unusedVariables false
set_option linter.unusedSimpArgs false

/-- How many bytes all pieces have. -/
def sumZ : List Pc → Nat
  | [] => 0
  | r :: rs => r.zs.length + sumZ rs
theorem sumZ_app (xs ys : List Pc) : sumZ (xs ++ ys) = sumZ xs + sumZ ys := by
  induction xs with
  | nil => simp [sumZ]
  | cons x xs ih => simp only [List.cons_append, sumZ, ih]; omega
theorem sumZ_succ {rs : List Pc} {k : Nat} (h : k < rs.length) : sumZ (rs.take (k + 1)) = sumZ (rs.take k) + rs[k].zs.length := by
  rw [List.take_succ_eq_append_getElem h, sumZ_app]
  rfl
theorem sumZ_le (rs : List Pc) (k : Nat) : sumZ (rs.take k) ≤ sumZ rs := by
  have h2 := sumZ_app (rs.take k) (rs.drop k)
  rw [List.take_append_drop] at h2
  omega
theorem sumZ_mem {rs : List Pc} {r : Pc} (h : r ∈ rs) : r.zs.length ≤ sumZ rs := by
  induction rs with
  | nil => cases h
  | cons x xs ih =>
    simp at h
    simp only [sumZ]
    rcases h with rfl | h
    · omega
    · have := ih h; omega
/-- What is left of a measure. -/
def szV (n : Int) (rs : List Pc) : Int := if n - rs.length - sumZ rs < 0 then -1 else n - rs.length - sumZ rs

theorem infoSS : (Tryd.prog.info? 24).map (fun i => (i.zero, i.size, i.bytes)) = some (some (.slice none 0 0), 1, 24) := by kernel_rfl
/-- The cells of a list of pieces, those that are there and nothing behind them. -/
def partR (rs : List Pc) (gs : List Nat) : List Value := List.zipWith (fun (g : Nat) (r : Pc) => Value.slice (some ⟨g, 0, none⟩) r.zs.length r.zs.length) gs rs ++ List.replicate (rs.length - gs.length) (.slice none 0 0)
theorem partR_len (rs : List Pc) (gs : List Nat) (h : gs.length ≤ rs.length) : (partR rs gs).length = rs.length := by unfold partR; simp; omega
theorem partR_zero (rs : List Pc) : (madeCells (Value.slice none 0 0).cells (rs.length * 1)).toList = partR rs [] := by
  unfold partR madeCells
  simp [Value.cells]
  rw [List.eq_replicate_iff]
  exact ⟨by simp, fun b hb => by simp [Nat.mod_one] at hb; exact hb.2.symm⟩
theorem partR_cell (rs : List Pc) (gs : List Nat) (h : gs.length < rs.length) : (partR rs gs)[gs.length]? = some (.slice none 0 0) := by
  unfold partR
  rw [List.getElem?_append_right (by simp; omega)]
  simp [List.getElem?_replicate]
  omega
theorem partR_set (rs : List Pc) (gs : List Nat) (g : Nat) (h : gs.length < rs.length) : (partR rs gs).set gs.length (.slice (some ⟨g, 0, none⟩) (rs[gs.length]).zs.length (rs[gs.length]).zs.length) = partR rs (gs ++ [g]) := by
  unfold partR
  have hl : (List.zipWith (fun (g : Nat) (r : Pc) => Value.slice (some ⟨g, 0, none⟩) r.zs.length r.zs.length) gs rs).length = gs.length := by simp; omega
  have hr : rs.length - gs.length = (rs.length - (gs.length + 1)) + 1 := by omega
  rw [List.set_append_right _ _ (by omega), hl, Nat.sub_self, hr, List.replicate_succ, List.set_cons_zero]
  have hz : List.zipWith (fun (g : Nat) (r : Pc) => Value.slice (some ⟨g, 0, none⟩) r.zs.length r.zs.length) (gs ++ [g]) rs = List.zipWith (fun (g : Nat) (r : Pc) => Value.slice (some ⟨g, 0, none⟩) r.zs.length r.zs.length) gs rs ++ [.slice (some ⟨g, 0, none⟩) (rs[gs.length]).zs.length (rs[gs.length]).zs.length] := by
    conv => lhs; rw [← List.take_append_drop gs.length rs]
    rw [List.zipWith_append (by simp; omega)]
    congr 1
    · conv => rhs; rw [← List.take_append_drop gs.length rs]
      rw [show gs = gs ++ [] by simp, List.zipWith_append (by simp; omega)]
      simp
    · rw [List.drop_eq_getElem_cons h]; rfl
  rw [hz, List.append_assoc, List.length_append]
  rfl
/-- A list of pieces in memory of its own: where its rows lie. -/
structure OwnP (w : World) (base g : Nat) (rs : List Pc) (gs : List Nat) : Prop where
  out : w.ownsRow base 24 1 (.slice (some ⟨g, 0, none⟩) rs.length rs.length) rs.length (partR rs gs)
  row : ∀ i (h : i < gs.length) (h2 : i < rs.length), w.ownsRow base 5 1 (.slice (some ⟨gs[i], 0, none⟩) (rs[i]).zs.length (rs[i]).zs.length) (rs[i]).zs.length ((rs[i]).zs.map (.int .u8))
  up : ∀ x ∈ gs, g < x
  ord : gs.Pairwise (· < ·)

end Go.Proofs.YtffidkoejlebeaaDoor

namespace Go.Proofs.YtffidkoejlebeaaDoor
open Go.ChangeShapes Go.WideShapes Go.ChangeAt Go.RowKit
set_option linter.unusedVariables false
set_option linter.unusedSimpArgs false

theorem own_other {w : World} {base e n x c : Nat} {xs : List Value} {p : Addr} (u : Value) (h : w.ownsRow base e 1 (.slice (some ⟨x, 0, none⟩) n c) n xs) (hne : x ≠ p.block) : (w.setCell p u).ownsRow base e 1 (.slice (some ⟨x, 0, none⟩) n c) n xs := by
  refine ⟨h.1, h.2.imp id ?_⟩
  rintro ⟨g, cap, cur, e1, e2, e3, e4⟩
  have e5 := e1
  simp at e5
  exact ⟨g, cap, cur, e1, e2, (Below.heap_setCell _ _ _ g (by rw [← e5.1]; exact hne)).trans e3, e4⟩
theorem OwnP.below {w w' : World} {base g : Nat} {rs : List Pc} {gs : List Nat} (h : OwnP w base g rs gs) (hb : Below w.heap.size w w') : OwnP w' base g rs gs := ⟨own_below h.out hb, fun i h1 h2 => own_below (h.row i h1 h2) hb, h.up, h.ord⟩
theorem OwnP.row_lt {w : World} {base g : Nat} {rs : List Pc} {gs : List Nat} (h : OwnP w base g rs gs) (hl : gs.length ≤ rs.length) : ∀ x ∈ gs, base ≤ x ∧ x < w.heap.size := by
  intro x hx
  obtain ⟨i, hi, rfl⟩ := List.getElem_of_mem hx
  exact (h.row i hi (by omega)).lt gs[i] rfl
/-- One row more. -/
theorem OwnP.more {w w1 : World} {base g : Nat} {rs : List Pc} {gs : List Nat} (h : OwnP w base g rs gs) (hlt : gs.length < rs.length) (hb : Below w.heap.size w w1) (hbase : base ≤ w.heap.size)
    (ho : w1.ownsRow w.heap.size 5 1 (.slice (some ⟨w.heap.size, 0, none⟩) (rs[gs.length]).zs.length (rs[gs.length]).zs.length) (rs[gs.length]).zs.length ((rs[gs.length]).zs.map (.int .u8))) :
    OwnP (w1.setCell ⟨g, gs.length, none⟩ (.slice (some ⟨w.heap.size, 0, none⟩) (rs[gs.length]).zs.length (rs[gs.length]).zs.length)) base g rs (gs ++ [w.heap.size]) := by
  have hg := (h.out.lt g rfl).2
  have hrl := h.row_lt (by omega)
  refine ⟨?_, ?_, ?_, ?_⟩
  · have := ((own_below h.out hb).stored gs.length (.slice (some ⟨w.heap.size, 0, none⟩) (rs[gs.length]).zs.length (rs[gs.length]).zs.length)).1
    rw [partR_set rs gs _ hlt] at this
    exact this
  · intro i hi hi2
    simp only [List.length_append, List.length_cons, List.length_nil] at hi
    by_cases hk : i < gs.length
    · have e : (gs ++ [w.heap.size])[i]'(by simp; omega) = gs[i] := List.getElem_append_left hk
      rw [e]
      exact own_other _ (own_below (h.row i hk hi2) hb) (by show gs[i] ≠ g; have := h.up gs[i] (List.getElem_mem hk); omega)
    · obtain rfl : i = gs.length := by omega
      have e : (gs ++ [w.heap.size])[gs.length]'(by simp) = w.heap.size := by simp
      rw [e]
      exact own_other _ (own_mono ho hbase) (by show w.heap.size ≠ g; omega)
  · intro x hx
    simp at hx
    rcases hx with hx | rfl
    · exact h.up x hx
    · exact hg
  · rw [List.pairwise_append]
    refine ⟨h.ord, by simp, ?_⟩
    intro x hx y hy
    simp at hy
    subst hy
    exact (hrl x hx).2

/-- The copy of a list of pieces, as one that is read. -/
def copyP (rs : List Pc) (gs : List Nat) : List Pc := List.zipWith (fun (g : Nat) (r : Pc) => ⟨some ⟨g, 0, none⟩, r.zs.length, r.zs⟩) gs rs
theorem copyP_len {rs : List Pc} {gs : List Nat} (h : gs.length = rs.length) : (copyP rs gs).length = rs.length := by unfold copyP; simp [h]
theorem copyP_get {rs : List Pc} {gs : List Nat} (h : gs.length = rs.length) (i : Nat) (hi : i < (copyP rs gs).length) : (copyP rs gs)[i] = ⟨some ⟨gs[i]'(by rw [copyP_len h] at hi; omega), 0, none⟩, (rs[i]'(by rw [copyP_len h] at hi; exact hi)).zs.length, (rs[i]'(by rw [copyP_len h] at hi; exact hi)).zs⟩ := by
  exact List.getElem_zipWith ..
theorem copyP_zs {rs : List Pc} {gs : List Nat} (h : gs.length = rs.length) : (copyP rs gs).map Pc.zs = rs.map Pc.zs := by
  refine List.ext_getElem (by simp [copyP_len h]) fun i h1 h2 => ?_
  simp only [List.getElem_map]
  rw [copyP_get h i (by simpa using h1)]
theorem zs_get {rs qs : List Pc} (h : qs.map Pc.zs = rs.map Pc.zs) (i : Nat) (hi : i < rs.length) (hj : i < qs.length) : qs[i].zs = rs[i].zs := by
  have := congrArg (fun l : List (List Int) => l[i]?) h
  simp only [List.getElem?_map, List.getElem?_eq_getElem hi, List.getElem?_eq_getElem hj, Option.map_some, Option.some.injEq] at this
  exact this
theorem zs_len {rs qs : List Pc} (h : qs.map Pc.zs = rs.map Pc.zs) : qs.length = rs.length := by
  have := congrArg List.length h
  simpa using this
theorem zs_mem {rs qs : List Pc} (h : qs.map Pc.zs = rs.map Pc.zs) {P : List Int → Prop} (hp : ∀ r ∈ rs, P r.zs) : ∀ r ∈ qs, P r.zs := by
  intro r hr
  have h1 : r.zs ∈ qs.map Pc.zs := List.mem_map_of_mem hr
  rw [h] at h1
  obtain ⟨r', hr', e⟩ := List.mem_map.1 h1
  rw [← e]
  exact hp r' hr'
theorem pcF_zs {rs qs : List Pc} (h : qs.map Pc.zs = rs.map Pc.zs) : pcF qs = pcF rs := by
  have e : ∀ l : List Pc, l.all (fun r => decide (r.zs.length ≤ 250)) = (l.map Pc.zs).all (fun z => decide (z.length ≤ 250)) := fun l => by rw [List.all_map]; rfl
  unfold pcF
  rw [zs_len h, e, e, h]
theorem OwnP.has {w : World} {base g : Nat} {rs : List Pc} {gs : List Nat} (h : OwnP w base g rs gs) (hl : gs.length = rs.length) (hw : ∀ r ∈ rs, (∀ n ∈ r.zs, (Lit.int .u8 n).wf = true) ∧ r.zs.length ≤ maxLen) : HasP w (some ⟨g, 0, none⟩) (copyP rs gs) := by
  refine ⟨?_, ?_⟩
  · refine .inr ⟨g, 0, rfl, (h.out.lt g rfl).2, fun i hi => ?_⟩
    have hi' : i < rs.length := by rw [copyP_len hl] at hi; exact hi
    rw [Nat.zero_add, h.out.cellAt i (by omega), copyP_get hl i hi]
    unfold partR
    rw [List.getElem?_append_left (by simp; omega), List.getElem?_eq_getElem (by simp; omega), List.getElem_zipWith]
  · intro r hr
    obtain ⟨i, hi, rfl⟩ := List.getElem_of_mem hr
    have hi' : i < rs.length := by rw [copyP_len hl] at hi; exact hi
    rw [copyP_get hl i hi]
    have hm := hw rs[i] (List.getElem_mem hi')
    have ho := h.row i (by omega) hi'
    refine ⟨Has.of_own ho (ho.lt _ rfl).2 hm.1, Nat.le_refl _, hm.2⟩

end Go.Proofs.YtffidkoejlebeaaDoor
