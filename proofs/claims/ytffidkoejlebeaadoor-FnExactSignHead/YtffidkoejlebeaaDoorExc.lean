/- Contracts of the model of chapter 2: clashes. Contracts of the laws' own functions over clashes: copied, held against each other, their size. Lists of pieces: slices of slices of bytes that are read; how one that came in is opened; how much they have; the model's fault of them. Contracts: lists of pieces measured, copied and held against each other by the laws. Contracts: lists of pieces copied and held against each other by the laws. Contracts: lists of pieces marked by the laws; clash results compared, marked, and asked for their marks. Plain facts of chapter 6: where a clash is looked for, and that where there is none all is as it should be. Contracts: the model's clashes of chapter 6: two pieces, two nodes. Contracts: the model's clash of two trees. Contracts: the model's TreeClash. What the exact laws leave of memory while they copy, compare and mark: nothing turns but what lies from one block up to another. What is found is a clash of short pieces of bytes. -/
import Derived.Test.YtffidkoejlebeaaDoorPiece
import Derived.Laws.BytesArg
import Derived.Test.YtffidkoejlebeaaDoorBytes
import Derived.Deep.Matrix
import Derived.Test.YtffidkoejlebeaaDoorKeep
import Derived.Test.YtffidkoejlebeaaDoorPath4S
import Derived.Test.YtffidkoejlebeaaDoorLvl
import Derived.Test.YtffidkoejlebeaaDoorGrowC
import Derived.Test.YtffidkoejlebeaaDoorFrB
import Derived.Deep.DeepCutAuto
import Derived.Deep.RegionWith
namespace Go.Proofs.YtffidkoejlebeaaDoor
open Go.ChangeShapes Go.WideShapes Go.ChangeAt Go.RowKit
set_option maxRecDepth 100000
set_option linter.unusedVariables false
set_option linter.unusedSimpArgs false

theorem Has.str {w : World} {a : Option Addr} {zs : List Int} (h : Has w .u8 a zs.length zs) (cap : Nat) : (convert 24 9 (.slice a zs.length cap)).run Tryd.prog w = .ok (.string (strOfNums zs)) w := by
  cases a with
  | none =>
    have h0 : zs.length = 0 := by
      rcases h.2.2 with c | ⟨_, _, c, _⟩
      · exact c
      · cases c
    obtain rfl : zs = [] := List.eq_nil_of_length_eq_zero h0
    exact run_convert_bytes_nil w _ _ Tryd.underlying24 Tryd.underlying5 _ _ _ Tryd.underlying9
  | some ad =>
    have hl := run_loadCells_list (P := Tryd.prog) w ad (zs.map (Value.int .u8)) h.news
    rw [List.length_map] at hl
    rw [run_convert_bytes_string w _ _ 5 _ _ _ Tryd.underlying24 Tryd.underlying5 Tryd.underlying9, run_bytesToString w _ _ cap zs hl, foldl_push_bytes]
    simp [strOfNums, ByteArray.empty, ByteArray.emptyWithCapacity]
    rfl
theorem str_inj {zs ys : List Int} (hz : ∀ n ∈ zs, (Lit.int .u8 n).wf = true) (hy : ∀ n ∈ ys, (Lit.int .u8 n).wf = true) : strOfNums zs = strOfNums ys ↔ zs = ys := by
  constructor
  · intro h
    have e : (zs.map fun n => UInt8.ofNat n.toNat) = ys.map fun n => UInt8.ofNat n.toNat := by
      have := congrArg (fun s => s.data.toList) h
      simpa [strOfNums_data] using this
    have back : ∀ l : List Int, (∀ n ∈ l, (Lit.int .u8 n).wf = true) → (l.map fun n => UInt8.ofNat n.toNat).map (fun c => (c.toNat : Int)) = l := by
      intro l
      induction l with
      | nil => intro _; rfl
      | cons x l ih =>
        intro hx
        have hb := bounds_u8 (hx x List.mem_cons_self)
        have ht : ((UInt8.ofNat x.toNat).toNat : Int) = x := by
          rw [UInt8.toNat_ofNat']
          omega
        simp only [List.map_cons, ht]
        rw [ih (fun n hn => hx n (List.mem_cons_of_mem _ hn))]
    rw [← back zs hz, ← back ys hy, e]
  · intro h; rw [h]

theorem own_shape {w : World} {base e n : Nat} {v : Value} {xs : List Value} (h : w.ownsRow base e 1 v n xs) : ∃ a c, v = .slice a n c := by
  rcases h.2 with ⟨rfl, h0⟩ | ⟨g, cap, cur, rfl, _⟩
  · exact ⟨none, 0, by rw [h0]⟩
  · exact ⟨_, cap, rfl⟩
theorem str_beq {zs ys : List Int} (hz : ∀ n ∈ zs, (Lit.int .u8 n).wf = true) (hy : ∀ n ∈ ys, (Lit.int .u8 n).wf = true) : ((strOfNums zs).toList == (strOfNums ys).toList) = decide (zs = ys) := by
  rw [Bool.eq_iff_iff, beq_iff_eq, decide_eq_true_iff, ← str_inj hz hy]
  constructor
  · intro h
    rw [ByteArray.toList_eq, ByteArray.toList_eq] at h
    cases hs : strOfNums zs with
    | mk x =>
      cases ht : strOfNums ys with
      | mk y =>
        rw [hs, ht] at h
        simp at h
        rw [h]
  · intro h; rw [h]

def clashB (zs ys : List Int) : Bool := decide (zs ≠ ys ∧ sumL zs = sumL ys)

/-- Whether a clash is one. -/
def isClashB (f : Bool) (zs ys : List Int) : Bool := f && (decide (zs.length ≤ 300) && (decide (ys.length ≤ 300) && clashB zs ys))

end Go.Proofs.YtffidkoejlebeaaDoor

namespace Go.Proofs.YtffidkoejlebeaaDoor
open Go.ChangeShapes Go.WideShapes Go.ChangeAt Go.RowKit
set_option maxRecDepth 100000
set_option linter.unusedVariables false
set_option linter.unusedSimpArgs false

theorem Has.setCell {w : World} {k : IntKind} {g o len : Nat} {zs : List Int} (h : Has w k (some ⟨g, o, none⟩) len zs) {b p : Nat} (hne : b ≠ g) (u : Value) : Has (w.setCell ⟨b, p, none⟩ u) k (some ⟨g, o, none⟩) len zs := by
  refine ⟨h.1, h.2.1, h.2.2.imp id ?_⟩
  rintro ⟨b', off, hb, hlt, hc⟩
  simp at hb
  obtain ⟨rfl, rfl⟩ := hb
  exact ⟨g, o, rfl, by simpa using hlt, fun i hi => (World.cell?_of_block (w := w) (Below.heap_setCell w ⟨b, p, none⟩ u g (Ne.symm hne))).trans (hc i hi)⟩

end Go.Proofs.YtffidkoejlebeaaDoor

namespace Go.Proofs.YtffidkoejlebeaaDoor
open Go.ChangeShapes Go.WideShapes Go.ChangeAt Go.RowKit
set_option linter.unusedVariables false
set_option linter.unusedSimpArgs false

/-- A piece of a list: where it lies, what room it has, its bytes. -/
structure Pc where
  ad : Option Addr
  cap : Nat
  zs : List Int
/-- A slice of slices of bytes that is only read. -/
def HasP (w : World) (a : Option Addr) (rs : List Pc) : Prop :=
  (rs.length = 0 ∨ ∃ b off, a = some ⟨b, off, none⟩ ∧ b < w.heap.size ∧ ∀ i (h : i < rs.length), w.cell? ⟨b, off + i, none⟩ = some (.slice rs[i].ad rs[i].zs.length rs[i].cap)) ∧
  ∀ r ∈ rs, Has w .u8 r.ad r.zs.length r.zs ∧ r.zs.length ≤ r.cap ∧ r.cap ≤ maxLen
theorem HasP.below {w w' : World} {a : Option Addr} {rs : List Pc} (h : HasP w a rs) {B : Nat} (hb : Below B w w') (hB : w.heap.size ≤ B) : HasP w' a rs := by
  refine ⟨?_, fun r hr => ⟨(h.2 r hr).1.below hb hB, (h.2 r hr).2⟩⟩
  rcases h.1 with h0 | ⟨b, off, ha, hlt, hc⟩
  · exact .inl h0
  · exact .inr ⟨b, off, ha, Nat.lt_of_lt_of_le hlt hb.size, fun i hi => (hb.cell (p := ⟨b, off + i, none⟩) (Nat.lt_of_lt_of_le hlt hB)).trans (hc i hi)⟩
theorem HasP.alloc {w : World} {a : Option Addr} {rs : List Pc} (h : HasP w a rs) (O : Obj) : HasP (w.alloc O) a rs := h.below ((Below.refl _ _).alloc (Nat.le_refl _) O) (Nat.le_refl _)
/-- A slice of slices of bytes that came in. -/
def IsPcs (w : World) (a : Option Addr) (len cap : Nat) (rs : List Pc) : Prop := len ≤ cap ∧ cap ≤ maxLen ∧ rs.length = len ∧ HasP w a rs
theorem pcs_of_trod {H : Type} {enc : TypeId × Value → H} {P : Program} {w : World} {base : Nat} {held : Bool} {fuel : Nat} {t e q : TypeId} {v : Value} {x : DataW H × List MemPlace} (ht : P.underlying t = some (.slice e)) (he : P.underlying e = some (.slice q)) (hq : P.underlying q = some (.int .u8)) (ce : P.cellsOf e = 1) (cq : P.cellsOf q = 1)
    (h : DataW.trod enc P w base (fun _ => true) held fuel t [v] = some x) : ∃ a len cap rs, v = .slice a len cap ∧ IsPcs w a len cap rs := by
  rcases Go.Deep.open_int_rows ht he hq ce cq h with ⟨hcs, _⟩ | ⟨a, len, cap, A, L, C, Z, hcs, _, hl, hm, _, hr⟩
  · simp at hcs
    exact ⟨none, 0, 0, [], hcs, Nat.le_refl _, Nat.zero_le _, rfl, .inl rfl, by simp⟩
  · simp at hcs
    refine ⟨some a, len, cap, (List.range len).map (fun r => ⟨A r, C r, (Z r).take (L r)⟩), hcs, hl, hm, by simp, ?_, ?_⟩
    · by_cases h0 : len = 0
      · exact .inl (by simpa using h0)
      · obtain ⟨b, off, spot⟩ := a
        have h1 := (hr 0 (by omega)).1
        have hspot : spot = none := by simpa [Addr.add] using World.cell?_spot h1
        subst hspot
        refine .inr ⟨b, off, rfl, block_lt_of_cell h1, fun i hi => ?_⟩
        simp only [List.length_map, List.length_range] at hi
        obtain ⟨c1, c2, c3, c4, _⟩ := hr i (by omega)
        have hlen : ((Z i).take (L i)).length = L i := by simp; omega
        simp only [List.getElem_map, List.getElem_range, hlen]
        by_cases hi0 : i = 0
        · subst hi0; simpa [Addr.add] using c1
        · simpa [Addr.add, hi0] using c1
    · intro r hmem
      simp only [List.mem_map, List.mem_range] at hmem
      obtain ⟨i, hi, rfl⟩ := hmem
      obtain ⟨c1, c2, c3, c4, c5, c6, c7⟩ := hr i (by omega)
      have hlen : ((Z i).take (L i)).length = L i := by simp; omega
      refine ⟨?_, by simp only [hlen]; exact c2, c3⟩
      have hrow : IsRow .u8 w (A i) (L i) (C i) (Z i) := by
        cases hA : A i with
        | none =>
          have hc0 := c6 hA
          exact .inl ⟨rfl, by omega, hc0, List.eq_nil_of_length_eq_zero (by omega)⟩
        | some x => exact .inr ⟨x, rfl, c2, c3, c4, fun j hj => (c7 x hA).2 j (by omega), c5⟩
      have := Has.of_row hrow
      simp only [hlen]
      exact this

/-- The fault of a list of pieces. -/
def pcF (rs : List Pc) : Int := if 24 < rs.length then 2 else if rs.all (fun r => decide (r.zs.length ≤ 250)) = true then 0 else 2

theorem all_take_succ {rs : List Pc} {k : Nat} (h : k < rs.length) (f : Pc → Bool) : (rs.take (k + 1)).all f = ((rs.take k).all f && f rs[k]) := by
  rw [List.take_succ_eq_append_getElem h, List.all_append]; simp

end Go.Proofs.YtffidkoejlebeaaDoor

namespace Go.Proofs.YtffidkoejlebeaaDoor
open Go.ChangeShapes Go.WideShapes Go.ChangeAt Go.RowKit
set_option linter.unusedVariables false
set_option linter.unusedSimpArgs false

/-- How many bytes all pieces have. -/
def sumZ : List Pc → Nat
  | [] => 0
  | r :: rs => r.zs.length + sumZ rs
theorem sumZ_app (xs ys : List Pc) : sumZ (xs ++ ys) = sumZ xs + sumZ ys := by
  induction xs with
  | nil => simp [sumZ]
  | cons x xs ih => simp only [List.cons_append, sumZ, ih]; omega
theorem sumZ_succ {rs : List Pc} {k : Nat} (h : k < rs.length) : sumZ (rs.take (k + 1)) = sumZ (rs.take k) + rs[k].zs.length := by
  rw [List.take_succ_eq_append_getElem h, sumZ_app]
  rfl
theorem sumZ_le (rs : List Pc) (k : Nat) : sumZ (rs.take k) ≤ sumZ rs := by
  have h2 := sumZ_app (rs.take k) (rs.drop k)
  rw [List.take_append_drop] at h2
  omega
theorem sumZ_mem {rs : List Pc} {r : Pc} (h : r ∈ rs) : r.zs.length ≤ sumZ rs := by
  induction rs with
  | nil => cases h
  | cons x xs ih =>
    simp at h
    simp only [sumZ]
    rcases h with rfl | h
    · omega
    · have := ih h; omega
/-- What is left of a measure. -/
def szV (n : Int) (rs : List Pc) : Int := if n - rs.length - sumZ rs < 0 then -1 else n - rs.length - sumZ rs

theorem infoSS : (Tryd.prog.info? 24).map (fun i => (i.zero, i.size, i.bytes)) = some (some (.slice none 0 0), 1, 24) := by kernel_rfl
/-- The cells of a list of pieces, those that are there and nothing behind them. -/
def partR (rs : List Pc) (gs : List Nat) : List Value := List.zipWith (fun (g : Nat) (r : Pc) => Value.slice (some ⟨g, 0, none⟩) r.zs.length r.zs.length) gs rs ++ List.replicate (rs.length - gs.length) (.slice none 0 0)
theorem partR_len (rs : List Pc) (gs : List Nat) (h : gs.length ≤ rs.length) : (partR rs gs).length = rs.length := by unfold partR; simp; omega
theorem partR_zero (rs : List Pc) : (madeCells (Value.slice none 0 0).cells (rs.length * 1)).toList = partR rs [] := by
  unfold partR madeCells
  simp [Value.cells]
  rw [List.eq_replicate_iff]
  exact ⟨by simp, fun b hb => by simp [Nat.mod_one] at hb; exact hb.2.symm⟩
theorem partR_cell (rs : List Pc) (gs : List Nat) (h : gs.length < rs.length) : (partR rs gs)[gs.length]? = some (.slice none 0 0) := by
  unfold partR
  rw [List.getElem?_append_right (by simp; omega)]
  simp [List.getElem?_replicate]
  omega
theorem partR_set (rs : List Pc) (gs : List Nat) (g : Nat) (h : gs.length < rs.length) : (partR rs gs).set gs.length (.slice (some ⟨g, 0, none⟩) (rs[gs.length]).zs.length (rs[gs.length]).zs.length) = partR rs (gs ++ [g]) := by
  unfold partR
  have hl : (List.zipWith (fun (g : Nat) (r : Pc) => Value.slice (some ⟨g, 0, none⟩) r.zs.length r.zs.length) gs rs).length = gs.length := by simp; omega
  have hr : rs.length - gs.length = (rs.length - (gs.length + 1)) + 1 := by omega
  rw [List.set_append_right _ _ (by omega), hl, Nat.sub_self, hr, List.replicate_succ, List.set_cons_zero]
  have hz : List.zipWith (fun (g : Nat) (r : Pc) => Value.slice (some ⟨g, 0, none⟩) r.zs.length r.zs.length) (gs ++ [g]) rs = List.zipWith (fun (g : Nat) (r : Pc) => Value.slice (some ⟨g, 0, none⟩) r.zs.length r.zs.length) gs rs ++ [.slice (some ⟨g, 0, none⟩) (rs[gs.length]).zs.length (rs[gs.length]).zs.length] := by
    conv => lhs; rw [← List.take_append_drop gs.length rs]
    rw [List.zipWith_append (by simp; omega)]
    congr 1
    · conv => rhs; rw [← List.take_append_drop gs.length rs]
      rw [show gs = gs ++ [] by simp, List.zipWith_append (by simp; omega)]
      simp
    · rw [List.drop_eq_getElem_cons h]; rfl
  rw [hz, List.append_assoc, List.length_append]
  rfl
/-- A list of pieces in memory of its own: where its rows lie. -/
structure OwnP (w : World) (base g : Nat) (rs : List Pc) (gs : List Nat) : Prop where
  out : w.ownsRow base 24 1 (.slice (some ⟨g, 0, none⟩) rs.length rs.length) rs.length (partR rs gs)
  row : ∀ i (h : i < gs.length) (h2 : i < rs.length), w.ownsRow base 5 1 (.slice (some ⟨gs[i], 0, none⟩) (rs[i]).zs.length (rs[i]).zs.length) (rs[i]).zs.length ((rs[i]).zs.map (.int .u8))
  up : ∀ x ∈ gs, g < x
  ord : gs.Pairwise (· < ·)

end Go.Proofs.YtffidkoejlebeaaDoor

namespace Go.Proofs.YtffidkoejlebeaaDoor
open Go.ChangeShapes Go.WideShapes Go.ChangeAt Go.RowKit
set_option linter.unusedVariables false
set_option linter.unusedSimpArgs false

theorem own_other {w : World} {base e n x c : Nat} {xs : List Value} {p : Addr} (u : Value) (h : w.ownsRow base e 1 (.slice (some ⟨x, 0, none⟩) n c) n xs) (hne : x ≠ p.block) : (w.setCell p u).ownsRow base e 1 (.slice (some ⟨x, 0, none⟩) n c) n xs := by
  refine ⟨h.1, h.2.imp id ?_⟩
  rintro ⟨g, cap, cur, e1, e2, e3, e4⟩
  have e5 := e1
  simp at e5
  exact ⟨g, cap, cur, e1, e2, (Below.heap_setCell _ _ _ g (by rw [← e5.1]; exact hne)).trans e3, e4⟩
theorem OwnP.below {w w' : World} {base g : Nat} {rs : List Pc} {gs : List Nat} (h : OwnP w base g rs gs) (hb : Below w.heap.size w w') : OwnP w' base g rs gs := ⟨own_below h.out hb, fun i h1 h2 => own_below (h.row i h1 h2) hb, h.up, h.ord⟩
theorem OwnP.row_lt {w : World} {base g : Nat} {rs : List Pc} {gs : List Nat} (h : OwnP w base g rs gs) (hl : gs.length ≤ rs.length) : ∀ x ∈ gs, base ≤ x ∧ x < w.heap.size := by
  intro x hx
  obtain ⟨i, hi, rfl⟩ := List.getElem_of_mem hx
  exact (h.row i hi (by omega)).lt gs[i] rfl
/-- One row more. -/
theorem OwnP.more {w w1 : World} {base g : Nat} {rs : List Pc} {gs : List Nat} (h : OwnP w base g rs gs) (hlt : gs.length < rs.length) (hb : Below w.heap.size w w1) (hbase : base ≤ w.heap.size)
    (ho : w1.ownsRow w.heap.size 5 1 (.slice (some ⟨w.heap.size, 0, none⟩) (rs[gs.length]).zs.length (rs[gs.length]).zs.length) (rs[gs.length]).zs.length ((rs[gs.length]).zs.map (.int .u8))) :
    OwnP (w1.setCell ⟨g, gs.length, none⟩ (.slice (some ⟨w.heap.size, 0, none⟩) (rs[gs.length]).zs.length (rs[gs.length]).zs.length)) base g rs (gs ++ [w.heap.size]) := by
  have hg := (h.out.lt g rfl).2
  have hrl := h.row_lt (by omega)
  refine ⟨?_, ?_, ?_, ?_⟩
  · have := ((own_below h.out hb).stored gs.length (.slice (some ⟨w.heap.size, 0, none⟩) (rs[gs.length]).zs.length (rs[gs.length]).zs.length)).1
    rw [partR_set rs gs _ hlt] at this
    exact this
  · intro i hi hi2
    simp only [List.length_append, List.length_cons, List.length_nil] at hi
    by_cases hk : i < gs.length
    · have e : (gs ++ [w.heap.size])[i]'(by simp; omega) = gs[i] := List.getElem_append_left hk
      rw [e]
      exact own_other _ (own_below (h.row i hk hi2) hb) (by show gs[i] ≠ g; have := h.up gs[i] (List.getElem_mem hk); omega)
    · obtain rfl : i = gs.length := by omega
      have e : (gs ++ [w.heap.size])[gs.length]'(by simp) = w.heap.size := by simp
      rw [e]
      exact own_other _ (own_mono ho hbase) (by show w.heap.size ≠ g; omega)
  · intro x hx
    simp at hx
    rcases hx with hx | rfl
    · exact h.up x hx
    · exact hg
  · rw [List.pairwise_append]
    refine ⟨h.ord, by simp, ?_⟩
    intro x hx y hy
    simp at hy
    subst hy
    exact (hrl x hx).2

/-- The copy of a list of pieces, as one that is read. -/
def copyP (rs : List Pc) (gs : List Nat) : List Pc := List.zipWith (fun (g : Nat) (r : Pc) => ⟨some ⟨g, 0, none⟩, r.zs.length, r.zs⟩) gs rs
theorem copyP_len {rs : List Pc} {gs : List Nat} (h : gs.length = rs.length) : (copyP rs gs).length = rs.length := by unfold copyP; simp [h]
theorem copyP_get {rs : List Pc} {gs : List Nat} (h : gs.length = rs.length) (i : Nat) (hi : i < (copyP rs gs).length) : (copyP rs gs)[i] = ⟨some ⟨gs[i]'(by rw [copyP_len h] at hi; omega), 0, none⟩, (rs[i]'(by rw [copyP_len h] at hi; exact hi)).zs.length, (rs[i]'(by rw [copyP_len h] at hi; exact hi)).zs⟩ := by
  exact List.getElem_zipWith ..
theorem copyP_zs {rs : List Pc} {gs : List Nat} (h : gs.length = rs.length) : (copyP rs gs).map Pc.zs = rs.map Pc.zs := by
  refine List.ext_getElem (by simp [copyP_len h]) fun i h1 h2 => ?_
  simp only [List.getElem_map]
  rw [copyP_get h i (by simpa using h1)]
theorem zs_get {rs qs : List Pc} (h : qs.map Pc.zs = rs.map Pc.zs) (i : Nat) (hi : i < rs.length) (hj : i < qs.length) : qs[i].zs = rs[i].zs := by
  have := congrArg (fun l : List (List Int) => l[i]?) h
  simp only [List.getElem?_map, List.getElem?_eq_getElem hi, List.getElem?_eq_getElem hj, Option.map_some, Option.some.injEq] at this
  exact this
theorem zs_len {rs qs : List Pc} (h : qs.map Pc.zs = rs.map Pc.zs) : qs.length = rs.length := by
  have := congrArg List.length h
  simpa using this
theorem zs_mem {rs qs : List Pc} (h : qs.map Pc.zs = rs.map Pc.zs) {P : List Int → Prop} (hp : ∀ r ∈ rs, P r.zs) : ∀ r ∈ qs, P r.zs := by
  intro r hr
  have h1 : r.zs ∈ qs.map Pc.zs := List.mem_map_of_mem hr
  rw [h] at h1
  obtain ⟨r', hr', e⟩ := List.mem_map.1 h1
  rw [← e]
  exact hp r' hr'
theorem pcF_zs {rs qs : List Pc} (h : qs.map Pc.zs = rs.map Pc.zs) : pcF qs = pcF rs := by
  have e : ∀ l : List Pc, l.all (fun r => decide (r.zs.length ≤ 250)) = (l.map Pc.zs).all (fun z => decide (z.length ≤ 250)) := fun l => by rw [List.all_map]; rfl
  unfold pcF
  rw [zs_len h, e, e, h]
theorem OwnP.has {w : World} {base g : Nat} {rs : List Pc} {gs : List Nat} (h : OwnP w base g rs gs) (hl : gs.length = rs.length) (hw : ∀ r ∈ rs, (∀ n ∈ r.zs, (Lit.int .u8 n).wf = true) ∧ r.zs.length ≤ maxLen) : HasP w (some ⟨g, 0, none⟩) (copyP rs gs) := by
  refine ⟨?_, ?_⟩
  · refine .inr ⟨g, 0, rfl, (h.out.lt g rfl).2, fun i hi => ?_⟩
    have hi' : i < rs.length := by rw [copyP_len hl] at hi; exact hi
    rw [Nat.zero_add, h.out.cellAt i (by omega), copyP_get hl i hi]
    unfold partR
    rw [List.getElem?_append_left (by simp; omega), List.getElem?_eq_getElem (by simp; omega), List.getElem_zipWith]
  · intro r hr
    obtain ⟨i, hi, rfl⟩ := List.getElem_of_mem hr
    have hi' : i < rs.length := by rw [copyP_len hl] at hi; exact hi
    rw [copyP_get hl i hi]
    have hm := hw rs[i] (List.getElem_mem hi')
    have ho := h.row i (by omega) hi'
    refine ⟨Has.of_own ho (ho.lt _ rfl).2 hm.1, Nat.le_refl _, hm.2⟩

end Go.Proofs.YtffidkoejlebeaaDoor

namespace Go.Proofs.YtffidkoejlebeaaDoor
open Go.ChangeShapes Go.WideShapes Go.ChangeAt Go.RowKit
set_option linter.unusedVariables false
set_option linter.unusedSimpArgs false

theorem own_at {w w' : World} {base e n x c : Nat} {xs : List Value} (h : w.ownsRow base e 1 (.slice (some ⟨x, 0, none⟩) n c) n xs) (hx : w'.heap[x]? = w.heap[x]?) : w'.ownsRow base e 1 (.slice (some ⟨x, 0, none⟩) n c) n xs := by
  refine ⟨h.1, h.2.imp id ?_⟩
  rintro ⟨g, cap, cur, e1, e2, e3, e4⟩
  have e5 := e1
  simp at e5
  exact ⟨g, cap, cur, e1, e2, by rw [← e5.1, hx, e5.1]; exact e3, e4⟩
theorem Fr.marked {M : Nat → Prop} {a : Option Addr} {w w' w'' : World} (h : Fr M w w') (k : Mk a w' w'') (hM : ∀ ad, a = some ad → M ad.block) : Fr M w w'' :=
  ⟨k.os.trans h.os, k.tape.trans h.tape, k.output.trans h.output, by rw [k.size]; exact h.size, fun i hi hn => (k.block i (fun ad had e => hn (by rw [e]; exact hM ad had))).trans (h.block i hi hn)⟩

/-- A clash result in memory of its own. -/
structure OwnC (w : World) (base : Nat) (a1 a2 : Option Addr) (c1 c2 : Nat) (xs ys : List Int) : Prop where
  one : w.ownsRow base 5 1 (.slice a1 xs.length c1) xs.length (xs.map (.int .u8))
  two : w.ownsRow base 5 1 (.slice a2 ys.length c2) ys.length (ys.map (.int .u8))
  apart : ∀ x y, a1 = some x → a2 = some y → x.block ≠ y.block
theorem own_blk {w w' : World} {base e n c : Nat} {a : Option Addr} {xs : List Value} (h : w.ownsRow base e 1 (.slice a n c) n xs) (hx : ∀ x, a = some x → w'.heap[x.block]? = w.heap[x.block]?) : w'.ownsRow base e 1 (.slice a n c) n xs := by
  cases a with
  | none =>
    refine ⟨h.1, .inl ?_⟩
    rcases h.2 with h0 | ⟨g, cap, cur, e1, _⟩
    · exact h0
    · simp at e1
  | some x =>
    refine ⟨h.1, h.2.imp id ?_⟩
    rintro ⟨g, cap, cur, e1, e2, e3, e4⟩
    have e5 := e1
    simp at e5
    have hxb := hx x rfl
    rw [e5.1] at hxb
    exact ⟨g, cap, cur, e1, e2, hxb.trans e3, e4⟩
theorem OwnC.below {w w' : World} {base : Nat} {a1 a2 : Option Addr} {c1 c2 : Nat} {xs ys : List Int} (h : OwnC w base a1 a2 c1 c2 xs ys) (hb : Below w.heap.size w w') : OwnC w' base a1 a2 c1 c2 xs ys := ⟨own_below h.one hb, own_below h.two hb, h.apart⟩

end Go.Proofs.YtffidkoejlebeaaDoor

namespace Go.Proofs.YtffidkoejlebeaaDoor
open Go.ChangeShapes Go.WideShapes Go.ChangeAt Go.RowKit
set_option linter.unusedVariables false
set_option linter.unusedSimpArgs false

/-- A clash: its two pieces, or none. -/
abbrev Cl := Option (List Int × List Int)
/-- Two pieces, if they are a clash. -/
def lookC (A B : List Int) : Cl := if clashB A B = true then some (A, B) else none
/-- Two nodes, if they are a clash. -/
def ndC (a b c d : Int) : Cl := lookC (nodeL a b) (nodeL c d)
/-- The clash of two trees. -/
def trC (xs ys : List Int) : Cl :=
  if h : xs.length ≤ 1 then none else ndC (rtM nS 11 (xs.take (splN xs.length).toNat)) (rtM nS 11 (xs.drop (splN xs.length).toNat)) (rtM nS 11 (ys.take (splN xs.length).toNat)) (rtM nS 11 (ys.drop (splN xs.length).toNat)) <|> (trC (xs.take (splN xs.length).toNat) (ys.take (splN xs.length).toNat) <|> trC (xs.drop (splN xs.length).toNat) (ys.drop (splN xs.length).toNat))
termination_by xs.length
decreasing_by
  · have h1 := splN_lt (n := xs.length) (by omega); simp; omega
  · have h1 := splN_pos xs.length; simp; omega
theorem trC_le {xs : List Int} (ys : List Int) (h : xs.length ≤ 1) : trC xs ys = none := by rw [trC, dif_pos h]
theorem trC_gt {xs : List Int} (ys : List Int) (h : 2 ≤ xs.length) : trC xs ys = (ndC (rtM nS 11 (xs.take (splN xs.length).toNat)) (rtM nS 11 (xs.drop (splN xs.length).toNat)) (rtM nS 11 (ys.take (splN xs.length).toNat)) (rtM nS 11 (ys.drop (splN xs.length).toNat)) <|> (trC (xs.take (splN xs.length).toNat) (ys.take (splN xs.length).toNat) <|> trC (xs.drop (splN xs.length).toNat) (ys.drop (splN xs.length).toNat))) := by rw [trC, dif_neg (by omega)]
/-- The clash on the way down to a place. -/
def lfC (xs : List Int) (a leaf : Int) (p : List Int) : Cl :=
  if h : xs.length ≤ 1 then none else if a < splN xs.length then ndC (clM nS leaf a (splN xs.length) p.dropLast) (p.getLastD 0) (rtM nS 11 (xs.take (splN xs.length).toNat)) (rtM nS 11 (xs.drop (splN xs.length).toNat)) <|> lfC (xs.take (splN xs.length).toNat) a leaf p.dropLast else ndC (p.getLastD 0) (clM nS leaf (a - splN xs.length) (xs.length - splN xs.length) p.dropLast) (rtM nS 11 (xs.take (splN xs.length).toNat)) (rtM nS 11 (xs.drop (splN xs.length).toNat)) <|> lfC (xs.drop (splN xs.length).toNat) (a - splN xs.length) leaf p.dropLast
termination_by xs.length
decreasing_by
  · have h1 := splN_lt (n := xs.length) (by omega); simp; omega
  · have h1 := splN_pos xs.length; simp; omega
theorem lfC_le {xs : List Int} (a l : Int) (p : List Int) (h : xs.length ≤ 1) : lfC xs a l p = none := by rw [lfC, dif_pos h]
theorem lfC_lo {xs : List Int} {a : Int} (l : Int) (p : List Int) (h : 2 ≤ xs.length) (ha : a < splN xs.length) : lfC xs a l p = (ndC (clM nS l a (splN xs.length) p.dropLast) (p.getLastD 0) (rtM nS 11 (xs.take (splN xs.length).toNat)) (rtM nS 11 (xs.drop (splN xs.length).toNat)) <|> lfC (xs.take (splN xs.length).toNat) a l p.dropLast) := by rw [lfC, dif_neg (by omega), if_pos ha]
theorem lfC_hi {xs : List Int} {a : Int} (l : Int) (p : List Int) (h : 2 ≤ xs.length) (ha : ¬ a < splN xs.length) : lfC xs a l p = (ndC (p.getLastD 0) (clM nS l (a - splN xs.length) (xs.length - splN xs.length) p.dropLast) (rtM nS 11 (xs.take (splN xs.length).toNat)) (rtM nS 11 (xs.drop (splN xs.length).toNat)) <|> lfC (xs.drop (splN xs.length).toNat) (a - splN xs.length) l p.dropLast) := by rw [lfC, dif_neg (by omega), if_neg ha]
/-- The clash of a growth. -/
def gkC (xs ys : List Int) (wh : Bool) (r : Int) (p : List Int) : Cl :=
  if h : xs.length = ys.length ∨ ys.length ≤ 1 then trC xs ys else if (xs.length : Int) ≤ splN ys.length then ndC (grR nS xs.length (splN ys.length) wh r p.dropLast).2 (p.getLastD 0) (rtM nS 11 (ys.take (splN ys.length).toNat)) (rtM nS 11 (ys.drop (splN ys.length).toNat)) <|> gkC xs (ys.take (splN ys.length).toNat) wh r p.dropLast else ndC (p.getLastD 0) (grR nS (xs.length - splN ys.length) (ys.length - splN ys.length) false r p.dropLast).1 (rtM nS 11 (xs.take (splN ys.length).toNat)) (rtM nS 11 (xs.drop (splN ys.length).toNat)) <|> (ndC (p.getLastD 0) (grR nS (xs.length - splN ys.length) (ys.length - splN ys.length) false r p.dropLast).2 (rtM nS 11 (ys.take (splN ys.length).toNat)) (rtM nS 11 (ys.drop (splN ys.length).toNat)) <|> (trC (xs.take (splN ys.length).toNat) (ys.take (splN ys.length).toNat) <|> gkC (xs.drop (splN ys.length).toNat) (ys.drop (splN ys.length).toNat) false r p.dropLast))
termination_by ys.length
decreasing_by
  · have h1 := splN_lt (n := ys.length) (by omega); simp; omega
  · have h1 := splN_pos ys.length; simp; omega
theorem gkC_eq {xs ys : List Int} (wh : Bool) (r : Int) (p : List Int) (h : xs.length = ys.length) : gkC xs ys wh r p = trC xs ys := by rw [gkC, dif_pos (.inl h)]
theorem gkC_lo {xs ys : List Int} (wh : Bool) (r : Int) (p : List Int) (h : 2 ≤ ys.length) (hs : (xs.length : Int) ≤ splN ys.length) : gkC xs ys wh r p = (ndC (grR nS xs.length (splN ys.length) wh r p.dropLast).2 (p.getLastD 0) (rtM nS 11 (ys.take (splN ys.length).toNat)) (rtM nS 11 (ys.drop (splN ys.length).toNat)) <|> gkC xs (ys.take (splN ys.length).toNat) wh r p.dropLast) := by
  have h1 := splN_lt (n := ys.length) (by omega)
  rw [gkC, dif_neg (by omega), if_pos hs]
theorem gkC_hi {xs ys : List Int} (wh : Bool) (r : Int) (p : List Int) (h : 2 ≤ ys.length) (hs : ¬ (xs.length : Int) ≤ splN ys.length) (hl : xs.length < ys.length) : gkC xs ys wh r p = (ndC (p.getLastD 0) (grR nS (xs.length - splN ys.length) (ys.length - splN ys.length) false r p.dropLast).1 (rtM nS 11 (xs.take (splN ys.length).toNat)) (rtM nS 11 (xs.drop (splN ys.length).toNat)) <|> (ndC (p.getLastD 0) (grR nS (xs.length - splN ys.length) (ys.length - splN ys.length) false r p.dropLast).2 (rtM nS 11 (ys.take (splN ys.length).toNat)) (rtM nS 11 (ys.drop (splN ys.length).toNat)) <|> (trC (xs.take (splN ys.length).toNat) (ys.take (splN ys.length).toNat) <|> gkC (xs.drop (splN ys.length).toNat) (ys.drop (splN ys.length).toNat) false r p.dropLast))) := by rw [gkC, dif_neg (by omega), if_neg hs]
theorem or_none {a b : Cl} (h : (a <|> b) = none) : a = none ∧ b = none := by cases a <;> simp_all
theorem or_some {a b : Cl} {x : List Int × List Int} (h : (a <|> b) = some x) : a = some x ∨ b = some x := by cases a <;> simp_all
theorem node_inj {a b c d : Int} (h : nodeL a b = nodeL c d) : a = c ∧ b = d := by
  simp [nodeL] at h
  omega
/-- Nodes of one sum that are no clash are the same. -/
theorem ndC_none {a b c d : Int} (h : ndC a b c d = none) (hs : nS a b = nS c d) : a = c ∧ b = d := by
  unfold ndC lookC at h
  split at h
  · cases h
  · rename_i hn
    refine node_inj ?_
    by_cases he : nodeL a b = nodeL c d
    · exact he
    · exfalso
      refine hn ?_
      unfold clashB
      simp only [decide_eq_true_eq]
      exact ⟨he, hs⟩
/-- What is found is a clash. -/
def isCl (x : List Int × List Int) : Prop := clashB x.1 x.2 = true ∧ x.1.length ≤ 300 ∧ x.2.length ≤ 300 ∧ (∀ n ∈ x.1, (Lit.int .u8 n).wf = true) ∧ ∀ n ∈ x.2, (Lit.int .u8 n).wf = true
theorem ndC_some {a b c d : Int} {x : List Int × List Int} (h : ndC a b c d = some x) (ha : 0 ≤ a ∧ a ≤ 65520) (hb : 0 ≤ b ∧ b ≤ 65520) (hc : 0 ≤ c ∧ c ≤ 65520) (hd : 0 ≤ d ∧ d ≤ 65520) : isCl x := by
  unfold ndC lookC at h
  split at h
  · cases h
    exact ⟨‹_›, by simp [nodeL], by simp [nodeL], node_wf ha.1 (by omega) hb.1 (by omega), node_wf hc.1 (by omega) hd.1 (by omega)⟩
  · cases h
theorem leaf_inj {xs ys : List Int} (h : leafL xs = leafL ys) : xs = ys := by simpa [leafL] using h
theorem lookC_none {A B : List Int} (h : lookC A B = none) (hs : sumL A = sumL B) : A = B := by
  unfold lookC at h
  split at h
  · cases h
  · rename_i hn
    by_cases he : A = B
    · exact he
    · exfalso
      refine hn ?_
      unfold clashB
      simp only [decide_eq_true_eq]
      exact ⟨he, hs⟩
theorem rtM_ge {xs : List Int} (h : 2 ≤ xs.length) : rtM nS 11 xs = nS (rtM nS 11 (xs.take (splN xs.length).toNat)) (rtM nS 11 (xs.drop (splN xs.length).toNat)) := rtM_gt nS 11 h
/-- Two logs of one root and one size without a clash are the same. -/
theorem trC_true (n : Nat) : ∀ xs ys : List Int, xs.length ≤ n → 1 ≤ xs.length → xs.length = ys.length → rtM nS 11 xs = rtM nS 11 ys → trC xs ys = none → xs = ys := by
  induction n with
  | zero => intro xs ys h h1; omega
  | succ n ih =>
    intro xs ys hn h1 hl hr hc
    by_cases ho : xs.length = 1
    · rw [rtM_le nS 11 (by omega), rtM_le nS 11 (by omega)] at hr
      match xs, ys, ho, hl with
      | [x], [y], _, _ => simp at hr; rw [hr]
    · have hp := splN_pos (xs.length : Int)
      have hlt := splN_lt (n := (xs.length : Int)) (by omega)
      rw [trC_gt ys (by omega)] at hc
      rw [rtM_ge (xs := xs) (by omega), rtM_ge (xs := ys) (by omega), ← hl] at hr
      obtain ⟨c1, c2⟩ := or_none hc
      obtain ⟨c2, c3⟩ := or_none c2
      obtain ⟨e1, e2⟩ := ndC_none c1 hr
      have q1 := ih _ _ (by simp; omega) (by simp; omega) (by simp; omega) e1 c2
      have q2 := ih _ _ (by simp; omega) (by simp; omega) (by simp; omega) e2 c3
      rw [← List.take_append_drop (splN xs.length).toNat xs, q1, q2, List.take_append_drop]
theorem trC_some (n : Nat) : ∀ xs ys : List Int, xs.length ≤ n → allS xs = true → allS ys = true → ∀ x, trC xs ys = some x → isCl x := by
  induction n with
  | zero => intro xs ys h _ _ x hx; rw [trC_le ys (by omega)] at hx; cases hx
  | succ n ih =>
    intro xs ys hn ax ay x hx
    by_cases ho : xs.length ≤ 1
    · rw [trC_le ys ho] at hx; cases hx
    · have hp := splN_pos (xs.length : Int)
      have hlt := splN_lt (n := (xs.length : Int)) (by omega)
      rw [trC_gt ys (by omega)] at hx
      rcases or_some hx with h | h
      · exact ndC_some h (rtM_bd _ _ (Nat.le_refl _) (allS_take ax _)) (rtM_bd _ _ (Nat.le_refl _) (allS_drop ax _)) (rtM_bd _ _ (Nat.le_refl _) (allS_take ay _)) (rtM_bd _ _ (Nat.le_refl _) (allS_drop ay _))
      · rcases or_some h with h | h
        · exact ih _ _ (by simp; omega) (allS_take ax _) (allS_take ay _) x h
        · exact ih _ _ (by simp; omega) (allS_drop ax _) (allS_drop ay _) x h
theorem last_bd {p : List Int} (h : allS p = true) (hp : 0 < p.length) : 0 ≤ p.getLastD 0 ∧ p.getLastD 0 ≤ 65520 := by
  have := allS_get h (p.length - 1) (by omega)
  rw [List.getLastD_eq_getLast?, List.getLast?_eq_getElem?, List.getElem?_eq_getElem (by omega)]
  exact this
/-- A leaf that climbs to the root without a clash is the one that there is. -/
theorem lfC_true (n : Nat) : ∀ (xs : List Int) (a l : Int) (p : List Int), xs.length ≤ n → 1 ≤ xs.length → 0 ≤ a → a < xs.length → clM nS l a xs.length p = rtM nS 11 xs → lfC xs a l p = none → xs.getD a.toNat 0 = l := by
  induction n with
  | zero => intro xs a l p h h1; omega
  | succ n ih =>
    intro xs a l p hn h1 ha0 ha1 hr hc
    by_cases ho : xs.length = 1
    · rw [clM_le _ _ _ _ _ (by omega), rtM_le nS 11 (by omega)] at hr
      obtain rfl : a = 0 := by omega
      match xs, ho with
      | [x], _ => simp at hr; simp [hr]
    · have hp := splN_pos (xs.length : Int)
      have hlt := splN_lt (n := (xs.length : Int)) (by omega)
      obtain ⟨m, hm⟩ : ∃ m : Nat, splN (xs.length : Int) = m := ⟨(splN (xs.length : Int)).toNat, by omega⟩
      have tl : (xs.take m).length = m := by simp; omega
      have dl : (xs.drop m).length = xs.length - m := by simp
      rw [rtM_ge (xs := xs) (by omega)] at hr
      by_cases h0 : a < splN xs.length
      · rw [lfC_lo l p (by omega) h0, hm] at hc
        rw [clM_lo nS p (by omega) h0, hm] at hr
        rw [show ((m : Int)).toNat = m from rfl] at hr hc
        obtain ⟨c1, c2⟩ := or_none hc
        obtain ⟨e1, e2⟩ := ndC_none c1 hr
        have q := ih (xs.take m) a l p.dropLast (by omega) (by omega) ha0 (by omega) (by rw [tl]; exact e1) c2
        rw [← q]
        rw [List.getD_eq_getElem?_getD, List.getD_eq_getElem?_getD, List.getElem?_take, if_pos (by omega)]
      · rw [lfC_hi l p (by omega) h0, hm] at hc
        rw [clM_hi nS p (by omega) h0, hm] at hr
        rw [show ((m : Int)).toNat = m from rfl] at hr hc
        obtain ⟨c1, c2⟩ := or_none hc
        obtain ⟨e1, e2⟩ := ndC_none c1 hr
        have e3 : ((xs.length - m : Nat) : Int) = (xs.length : Int) - m := by omega
        have q := ih (xs.drop m) (a - m) l p.dropLast (by omega) (by omega) (by omega) (by omega) (by rw [dl, e3]; exact e2) c2
        rw [← q]
        rw [List.getD_eq_getElem?_getD, List.getD_eq_getElem?_getD, List.getElem?_drop, show m + (a - (m : Int)).toNat = a.toNat by omega]
theorem lfC_some (n : Nat) : ∀ (xs : List Int) (a l : Int) (p : List Int), xs.length ≤ n → xs.length ≤ 32 → 0 ≤ a → a < xs.length → p.length = stN a xs.length → allS xs = true → allS p = true → (0 ≤ l ∧ l ≤ 65520) → ∀ x, lfC xs a l p = some x → isCl x := by
  induction n with
  | zero => intro xs a l p h _ _ _ _ _ _ _ x hx; rw [lfC_le _ _ _ (by omega)] at hx; cases hx
  | succ n ih =>
    intro xs a l p hn h32 ha0 ha1 hpl ax ap hl x hx
    by_cases ho : xs.length ≤ 1
    · rw [lfC_le _ _ _ ho] at hx; cases hx
    · have hp := splN_pos (xs.length : Int)
      have hlt := splN_lt (n := (xs.length : Int)) (by omega)
      obtain ⟨m, hm⟩ : ∃ m : Nat, splN (xs.length : Int) = m := ⟨(splN (xs.length : Int)).toNat, by omega⟩
      have tl : (xs.take m).length = m := by simp; omega
      have dl : (xs.drop m).length = xs.length - m := by simp
      have hd : allS p.dropLast = true := by rw [List.dropLast_eq_take]; exact allS_take ap _
      by_cases h0 : a < splN xs.length
      · rw [stN_lo (by omega) h0, hm] at hpl
        have hlast : 0 ≤ p.getLastD 0 ∧ p.getLastD 0 ≤ 65520 := last_bd ap (by omega)
        rw [lfC_lo l p (by omega) h0, hm] at hx
        rw [show ((m : Int)).toNat = m from rfl] at hx
        rcases or_some hx with h | h
        · exact ndC_some h (clM_bd _ _ _ _ _ (Nat.le_refl _) hl.1 hl.2) hlast (rtM_bd _ _ (Nat.le_refl _) (allS_take ax _)) (rtM_bd _ _ (Nat.le_refl _) (allS_drop ax _))
        · exact ih (xs.take m) a l p.dropLast (by omega) (by omega) ha0 (by omega) (by rw [tl]; simp; omega) (allS_take ax _) hd hl x h
      · rw [stN_hi (by omega) h0, hm] at hpl
        have hlast : 0 ≤ p.getLastD 0 ∧ p.getLastD 0 ≤ 65520 := last_bd ap (by omega)
        rw [lfC_hi l p (by omega) h0, hm] at hx
        rw [show ((m : Int)).toNat = m from rfl] at hx
        have e3 : ((xs.length - m : Nat) : Int) = (xs.length : Int) - m := by omega
        rcases or_some hx with h | h
        · exact ndC_some h hlast (clM_bd _ _ _ _ _ (Nat.le_refl _) hl.1 hl.2) (rtM_bd _ _ (Nat.le_refl _) (allS_take ax _)) (rtM_bd _ _ (Nat.le_refl _) (allS_drop ax _))
        · exact ih (xs.drop m) (a - m) l p.dropLast (by omega) (by omega) (by omega) (by omega) (by rw [dl, e3]; simp; omega) (allS_drop ax _) hd hl x h
/-- A growth that is taken without a clash goes on from what there was. -/
theorem gkC_true (n : Nat) : ∀ (xs ys : List Int) (wh : Bool) (r : Int) (p : List Int), ys.length ≤ n → 1 ≤ xs.length → xs.length ≤ ys.length → ys.length ≤ 32 → (wh = true → r = rtM nS 11 xs) → grR nS xs.length ys.length wh r p = (rtM nS 11 xs, rtM nS 11 ys) → gkC xs ys wh r p = none → xs = ys.take xs.length := by
  induction n with
  | zero => intro xs ys wh r p h h1 h2; omega
  | succ n ih =>
    intro xs ys wh r p hn h1 hle h32 hw hr hc
    by_cases ho : xs.length = ys.length
    · rw [gkC_eq wh r p ho] at hc
      rw [grR_eq nS wh r p (by omega)] at hr
      have hrr : rtM nS 11 xs = rtM nS 11 ys := by
        cases wh
        · simp at hr; rw [← hr.1, ← hr.2]
        · simp at hr; rw [← hr.1, ← hr.2]
      have := trC_true _ xs ys (Nat.le_refl _) h1 ho hrr hc
      rw [← this, List.take_length]
    · obtain ⟨q1, q2, q3⟩ := splN_bd (n := (ys.length : Int)) (by omega) (by omega)
      obtain ⟨m, hm⟩ : ∃ m : Nat, splN (ys.length : Int) = m := ⟨(splN (ys.length : Int)).toNat, by omega⟩
      have tl : (ys.take m).length = m := by simp; omega
      have dl : (ys.drop m).length = ys.length - m := by simp
      by_cases h0 : (xs.length : Int) ≤ splN ys.length
      · rw [gkC_lo wh r p (by omega) h0, hm] at hc
        rw [grR_lo nS wh r p (by omega) h0, hm, rtM_ge (xs := ys) (by omega), hm] at hr
        rw [show ((m : Int)).toNat = m from rfl] at hr hc
        obtain ⟨c1, c2⟩ := or_none hc
        have hr1 := congrArg Prod.fst hr
        have hr2 := congrArg Prod.snd hr
        simp only at hr1 hr2
        obtain ⟨e1, e2⟩ := ndC_none c1 hr2
        have q := ih xs (ys.take m) wh r p.dropLast (by omega) h1 (by omega) (by omega) hw (by rw [tl, ← hr1, ← e1]) c2
        rw [List.take_take, Nat.min_eq_left (by omega)] at q
        exact q
      · rw [gkC_hi wh r p (by omega) h0 (by omega), hm] at hc
        have hsp := splN_same (s := (xs.length : Int)) (t := (ys.length : Int)) (by omega) (by omega) (by omega) (by omega)
        rw [grR_hi nS wh r p (by omega) h0 (by omega), hm, rtM_ge (xs := ys) (by omega), hm, rtM_ge (xs := xs) (by omega), hsp, hm] at hr
        rw [show ((m : Int)).toNat = m from rfl] at hr hc
        obtain ⟨c1, c2⟩ := or_none hc
        obtain ⟨c2, c3⟩ := or_none c2
        obtain ⟨c3, c4⟩ := or_none c3
        have hr1 := congrArg Prod.fst hr
        have hr2 := congrArg Prod.snd hr
        simp only at hr1 hr2
        obtain ⟨e1, e2⟩ := ndC_none c1 hr1
        obtain ⟨e3, e4⟩ := ndC_none c2 hr2
        have d1 : ((xs.drop m).length : Int) = (xs.length : Int) - m := by simp; omega
        have d2 : ((ys.drop m).length : Int) = (ys.length : Int) - m := by simp; omega
        have t1 := trC_true _ (xs.take m) (ys.take m) (Nat.le_refl _) (by simp; omega) (by simp; omega) (by rw [← e1, ← e3]) c3
        have q := ih (xs.drop m) (ys.drop m) false r p.dropLast (by omega) (by simp; omega) (by simp; omega) (by omega) (by simp) (by rw [d1, d2, ← e2, ← e4]) c4
        have hx := List.take_append_drop m xs
        rw [t1, q] at hx
        rw [← hx]
        have l1 : (ys.take m ++ (ys.drop m).take (xs.drop m).length).length = xs.length := by simp; omega
        rw [l1]
        have e5 : ys.take xs.length = ys.take m ++ (ys.drop m).take (xs.drop m).length := by
          have := List.take_append_drop m (ys.take xs.length)
          rw [List.take_take, Nat.min_eq_left (by omega), List.drop_take] at this
          rw [← this]
          congr 2
          simp
        rw [e5]

end Go.Proofs.YtffidkoejlebeaaDoor

namespace Go.Proofs.YtffidkoejlebeaaDoor
open Go.ChangeShapes Go.WideShapes Go.ChangeAt Go.RowKit
set_option linter.unusedVariables false
set_option linter.unusedSimpArgs false

/-- The first piece of a clash. -/
def clA (x : Cl) : List Int := match x with | some y => y.1 | none => []
/-- The second piece of a clash. -/
def clB (x : Cl) : List Int := match x with | some y => y.2 | none => []
theorem OwnC.nil (w : World) (base : Nat) : OwnC w base none none 0 0 [] [] := ⟨World.ownsRow_nil _ _ _ _, World.ownsRow_nil _ _ _ _, fun _ _ e => by cases e⟩
theorem OwnC.mono {w : World} {base base' : Nat} {a1 a2 : Option Addr} {c1 c2 : Nat} {xs ys : List Int} (h : OwnC w base a1 a2 c1 c2 xs ys) (hb : base' ≤ base) : OwnC w base' a1 a2 c1 c2 xs ys := ⟨own_mono h.one hb, own_mono h.two hb, h.apart⟩
theorem OwnC.set {w : World} {base : Nat} {a1 a2 : Option Addr} {c1 c2 : Nat} {xs ys : List Int} (h : OwnC w base a1 a2 c1 c2 xs ys) (p : Addr) (u : Value) (hp : p.block < base) : OwnC (w.setCell p u) base a1 a2 c1 c2 xs ys :=
  ⟨own_blk h.one (fun x e => Below.heap_setCell _ _ _ _ (by have := own_base h.one x e; omega)), own_blk h.two (fun x e => Below.heap_setCell _ _ _ _ (by have := own_base h.two x e; omega)), h.apart⟩

/-- A variable of three cells that was written. -/
theorem var_set {E ua : World} {b base : Nat} {x0 x1 x2 v0 v1 v2 : Value} {a1 a2 : Option Addr} {c1 c2 : Nat} {xs ys : List Int} (q0 : ua.cell? ⟨b, 0, none⟩ = some x0) (q1 : ua.cell? ⟨b, 1, none⟩ = some x1) (q2 : ua.cell? ⟨b, 2, none⟩ = some x2) (f0 : ua.frozen? ⟨b, 0, none⟩ = false) (f1 : ua.frozen? ⟨b, 1, none⟩ = false) (f2 : ua.frozen? ⟨b, 2, none⟩ = false) (hb : E.heap.size ≤ b) (hlt : b < ua.heap.size) (D : Below E.heap.size E ua) (O : OwnC ua base a1 a2 c1 c2 xs ys) (hbase : b < base) :
    E.heap.size ≤ b ∧ b < (((ua.setCell ⟨b, 0, none⟩ v0).setCell ⟨b, 1, none⟩ v1).setCell ⟨b, 2, none⟩ v2).heap.size ∧ (((ua.setCell ⟨b, 0, none⟩ v0).setCell ⟨b, 1, none⟩ v1).setCell ⟨b, 2, none⟩ v2).cell? ⟨b, 0, none⟩ = some v0 ∧ (((ua.setCell ⟨b, 0, none⟩ v0).setCell ⟨b, 1, none⟩ v1).setCell ⟨b, 2, none⟩ v2).cell? ⟨b, 1, none⟩ = some v1 ∧ (((ua.setCell ⟨b, 0, none⟩ v0).setCell ⟨b, 1, none⟩ v1).setCell ⟨b, 2, none⟩ v2).cell? ⟨b, 2, none⟩ = some v2 ∧ ((((ua.setCell ⟨b, 0, none⟩ v0).setCell ⟨b, 1, none⟩ v1).setCell ⟨b, 2, none⟩ v2).frozen? ⟨b, 0, none⟩ = false ∧ (((ua.setCell ⟨b, 0, none⟩ v0).setCell ⟨b, 1, none⟩ v1).setCell ⟨b, 2, none⟩ v2).frozen? ⟨b, 1, none⟩ = false ∧ (((ua.setCell ⟨b, 0, none⟩ v0).setCell ⟨b, 1, none⟩ v1).setCell ⟨b, 2, none⟩ v2).frozen? ⟨b, 2, none⟩ = false) ∧ OwnC (((ua.setCell ⟨b, 0, none⟩ v0).setCell ⟨b, 1, none⟩ v1).setCell ⟨b, 2, none⟩ v2) E.heap.size a1 a2 c1 c2 xs ys ∧ Below E.heap.size E (((ua.setCell ⟨b, 0, none⟩ v0).setCell ⟨b, 1, none⟩ v1).setCell ⟨b, 2, none⟩ v2) := by
  have e1 : (ua.setCell ⟨b, 0, none⟩ v0).cell? ⟨b, 1, none⟩ = some x1 := (World.cell?_setCell_other (h := by simp) ..).trans q1
  have e2 : ((ua.setCell ⟨b, 0, none⟩ v0).setCell ⟨b, 1, none⟩ v1).cell? ⟨b, 2, none⟩ = some x2 := (World.cell?_setCell_other (h := by simp) ..).trans ((World.cell?_setCell_other (h := by simp) ..).trans q2)
  refine ⟨hb, by simpa using hlt, ?_, ?_, World.cell?_setCell_same (h := e2) .., ⟨by simpa using f0, by simpa using f1, by simpa using f2⟩, (((O.set _ _ hbase).set _ _ hbase).set _ _ hbase).mono (by omega), ((D.setCell hb _).setCell hb _).setCell hb _⟩
  · exact (World.cell?_setCell_other (h := by simp) ..).trans ((World.cell?_setCell_other (h := by simp) ..).trans (World.cell?_setCell_same (h := q0) ..))
  · exact (World.cell?_setCell_other (h := by simp) ..).trans (World.cell?_setCell_same (h := e1) ..)

end Go.Proofs.YtffidkoejlebeaaDoor

namespace Go.Proofs.YtffidkoejlebeaaDoor
open Go.ChangeShapes Go.WideShapes Go.ChangeAt Go.RowKit
set_option linter.unusedVariables false
set_option linter.unusedSimpArgs false

end Go.Proofs.YtffidkoejlebeaaDoor

namespace Go.Proofs.YtffidkoejlebeaaDoor
open Go.ChangeShapes Go.WideShapes Go.ChangeAt Go.RowKit
set_option linter.unusedVariables false
set_option linter.unusedSimpArgs false

/-- The code of TreeClash. -/
def tkC (xs ys : List Int) : Int := if lvF xs = 0 then (if lvF ys = 0 then (if xs.length = ys.length ∧ xs.length ≠ 0 then (if rtM nS 11 xs = rtM nS 11 ys then 0 else 8) else 1) else lvF ys) else lvF xs
/-- The clash of TreeClash. -/
def tkX (xs ys : List Int) : Cl := if tkC xs ys = 0 then trC xs ys else none
theorem tkC_zero {xs ys : List Int} (h : tkC xs ys = 0) : lvF xs = 0 ∧ lvF ys = 0 ∧ xs.length = ys.length ∧ 1 ≤ xs.length ∧ rtM nS 11 xs = rtM nS 11 ys := by
  unfold tkC at h
  split at h
  · split at h
    · split at h
      · split at h
        · exact ⟨‹_›, ‹_›, by omega, by omega, ‹_›⟩
        · omega
      · omega
    · omega
  · omega

end Go.Proofs.YtffidkoejlebeaaDoor

namespace Go.Proofs.YtffidkoejlebeaaDoor
open Go.ChangeShapes Go.WideShapes Go.ChangeAt Go.RowKit
set_option linter.unusedVariables false
set_option linter.unusedSimpArgs false

theorem OwnC.ex {lo hi : Nat} {w u : World} {base : Nat} {a1 a2 : Option Addr} {c1 c2 : Nat} {xs ys : List Int} (h : OwnC w base a1 a2 c1 c2 xs ys) (k : Ex lo hi w u) (hb : hi ≤ base) : OwnC u base a1 a2 c1 c2 xs ys := ⟨own_ex h.one k hb, own_ex h.two k hb, h.apart⟩
theorem OwnP.ex {lo hi : Nat} {w u : World} {base g : Nat} {rs : List Pc} {gs : List Nat} (h : OwnP w base g rs gs) (k : Ex lo hi w u) (hb : hi ≤ base) : OwnP u base g rs gs := ⟨own_ex h.out k hb, fun i h1 h2 => own_ex (h.row i h1 h2) k hb, h.up, h.ord⟩
theorem OwnC.blocks {w : World} {base : Nat} {a1 a2 : Option Addr} {c1 c2 : Nat} {xs ys : List Int} (h : OwnC w base a1 a2 c1 c2 xs ys) : ∀ b, ((∃ x, a1 = some x ∧ b = x.block) ∨ ∃ x, a2 = some x ∧ b = x.block) → base ≤ b ∧ b < w.heap.size := by
  rintro b (⟨x, e, rfl⟩ | ⟨x, e, rfl⟩)
  · exact ⟨own_base h.one x e, own_lt h.one x e⟩
  · exact ⟨own_base h.two x e, own_lt h.two x e⟩
theorem Has.ex {lo hi : Nat} {w u : World} {k : IntKind} {a : Option Addr} {n : Nat} {zs : List Int} (h : Has w k a n zs) {B : Nat} (hb : w.heap.size ≤ B) (e : Below B w u) : Has u k a n zs := h.below e hb

theorem szV_ok {n : Int} {rs : List Pc} (h : ¬ szV n rs < 0) (hn : n ≤ 1048576) : rs.length ≤ 1048576 ∧ sumZ rs ≤ 1048576 ∧ szV n rs ≤ 1048576 ∧ 0 ≤ szV n rs ∧ ∀ r ∈ rs, r.zs.length ≤ 1048576 := by
  unfold szV at *
  split at h
  · omega
  · rename_i h2
    rw [if_neg h2]
    have hs : sumZ rs ≤ 1048576 := by omega
    exact ⟨by omega, hs, by omega, by omega, fun r hr => Nat.le_trans (sumZ_mem hr) hs⟩

end Go.Proofs.YtffidkoejlebeaaDoor

namespace Go.Proofs.YtffidkoejlebeaaDoor
open Go.ChangeShapes Go.WideShapes Go.ChangeAt Go.RowKit
set_option linter.unusedVariables false
set_option linter.unusedSimpArgs false

theorem cl_ok {X : Cl} (h : ∀ x, X = some x → isCl x) : (clA X).length ≤ 300 ∧ (clB X).length ≤ 300 ∧ (∀ n ∈ clA X, (Lit.int .u8 n).wf = true) ∧ ∀ n ∈ clB X, (Lit.int .u8 n).wf = true := by
  cases X with
  | none => exact ⟨Nat.zero_le _, Nat.zero_le _, by simp [clA], by simp [clB]⟩
  | some x =>
    obtain ⟨_, h1, h2, h3, h4⟩ := h x rfl
    exact ⟨h1, h2, h3, h4⟩
theorem tkX_some (xs ys : List Int) : ∀ x, tkX xs ys = some x → isCl x := by
  intro x h
  unfold tkX at h
  split at h
  · obtain ⟨h1, h2, _⟩ := tkC_zero ‹_›
    exact trC_some _ xs ys (Nat.le_refl _) (lvF_zero h1).2 (lvF_zero h2).2 x h
  · cases h

end Go.Proofs.YtffidkoejlebeaaDoor
