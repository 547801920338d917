/- Contracts: the draws of the model, as far as the laws lean on them: they return, within bounds, and touch nothing but their own source. Contracts: sources of draws: laid, and numbers of whatever bound. -/
import Derived.Test.YtffidkoejlebeaaDoorInts
namespace Go.Proofs.YtffidkoejlebeaaDoor
open Go.ChangeShapes Go.WideShapes Go.ChangeAt Go.RowKit
set_option linter.unusedVariables false
set_option linter.unusedSimpArgs false

/-- Of what there was nothing has turned but block s. -/
structure Only (s : Nat) (w w' : World) : Prop where
  os : w'.os = w.os
  tape : w'.tape = w.tape
  output : w'.output = w.output
  size : w.heap.size ≤ w'.heap.size
  block : ∀ k, k < w.heap.size → k ≠ s → w'.heap[k]? = w.heap[k]?
theorem Only.refl (s : Nat) (w : World) : Only s w w := ⟨rfl, rfl, rfl, Nat.le_refl _, fun _ _ _ => rfl⟩
theorem Only.trans {s : Nat} {a b c : World} (h : Only s a b) (k : Only s b c) : Only s a c :=
  ⟨k.os.trans h.os, k.tape.trans h.tape, k.output.trans h.output, Nat.le_trans h.size k.size, fun i hi hn => (k.block i (Nat.lt_of_lt_of_le hi h.size) hn).trans (h.block i hi hn)⟩
theorem Only.of_below {s : Nat} {a b : World} (h : Below a.heap.size a b) : Only s a b := ⟨h.os, h.tape, h.output, h.size, fun i hi _ => h.block i hi⟩
theorem Only.alloc {s : Nat} {a w : World} (h : Only s a w) (o : Obj) : Only s a (w.alloc o) := h.trans (.of_below ((Below.refl _ _).alloc (Nat.le_refl _) o))
theorem Only.drewN {s : Nat} {a w : World} (h : Only s a w) (n : Nat) : Only s a (w.drewN n) := h.trans (.of_below (below_drewN (Below.refl _ _) n))
theorem Only.store {s o : Nat} {a w : World} (h : Only s a w) (u : Value) : Only s a (w.setCell ⟨s, o, none⟩ u) :=
  h.trans ⟨rfl, rfl, rfl, by simp [World.setCell], fun k _ hk => Below.heap_setCell _ _ _ _ hk⟩
theorem Only.storeNew {s b o : Nat} {a w : World} (h : Only s a w) (hb : a.heap.size ≤ b) (u : Value) : Only s a (w.setCell ⟨b, o, none⟩ u) :=
  ⟨h.os, h.tape, h.output, Nat.le_trans h.size (by simp [World.setCell]), fun k hk hn => (Below.heap_setCell w ⟨b, o, none⟩ u k (by show k ≠ b; omega)).trans (h.block k hk hn)⟩
theorem Only.below {s B : Nat} {w w' : World} (h : Only s w w') (hB : B ≤ s) (hs : B ≤ w.heap.size) : Below B w w' :=
  ⟨h.os, h.tape, h.output, h.size, fun k hk => h.block k (by omega) (by omega)⟩
theorem Only.cell {s : Nat} {w w' : World} (h : Only s w w') {b o : Nat} (hb : b < w.heap.size) (hs : b ≠ s) : w'.cell? ⟨b, o, none⟩ = w.cell? ⟨b, o, none⟩ := World.cell?_of_block (w := w) (h.block b hb hs)
theorem Only.frozen {s : Nat} {w w' : World} (h : Only s w w') {b o : Nat} (hb : b < w.heap.size) (hs : b ≠ s) : w'.frozen? ⟨b, o, none⟩ = w.frozen? ⟨b, o, none⟩ := World.frozen?_of_block (w := w) (h.block b hb hs)
theorem ocell {s : Nat} {w w' : World} (h : Only s w w') : (∀ b o, b < w.heap.size → b ≠ s → w'.cell? ⟨b, o, none⟩ = w.cell? ⟨b, o, none⟩) ∧ (∀ b o, b < w.heap.size → b ≠ s → w'.frozen? ⟨b, o, none⟩ = w.frozen? ⟨b, o, none⟩) :=
  ⟨fun _ _ hb hs => h.cell hb hs, fun _ _ hb hs => h.frozen hb hs⟩

theorem Only.cell_alloc {s : Nat} {w w' : World} {O : Obj} (h : Only s (w.alloc O) w') {b o : Nat} (hb : b < w.heap.size) (hs : b ≠ s) : w'.cell? ⟨b, o, none⟩ = w.cell? ⟨b, o, none⟩ :=
  (h.cell (by simp; omega) hs).trans (((Below.refl _ _).alloc (Nat.le_refl _) O).cell (p := ⟨b, o, none⟩) hb)
theorem Only.frozen_alloc {s : Nat} {w w' : World} {O : Obj} (h : Only s (w.alloc O) w') {b o : Nat} (hb : b < w.heap.size) (hs : b ≠ s) : w'.frozen? ⟨b, o, none⟩ = w.frozen? ⟨b, o, none⟩ :=
  (h.frozen (by simp; omega) hs).trans (((Below.refl _ _).alloc (Nat.le_refl _) O).frozen (p := ⟨b, o, none⟩) hb)

/-- A source at block s, over a code whose bytes lie below block B, t numbers read. -/
structure SrcAt (w : World) (B s : Nat) (a : Option Addr) (len cap : Nat) (zs : List Int) (t : Nat) : Prop where
  code : w.cell? ⟨s, 0, none⟩ = some (.slice a len cap)
  at' : w.cell? ⟨s, 1, none⟩ = some (.int .i64 t)
  free : w.frozen? ⟨s, 1, none⟩ = false
  base : B ≤ s
  lt : s < w.heap.size
  len' : zs.length = len
  small : len ≤ 1048576
  wf : ∀ n ∈ zs, (Lit.int .u8 n).wf = true
  cells : len = 0 ∨ ∃ b off, a = some ⟨b, off, none⟩ ∧ b < B ∧ ∀ i, i < len → w.cell? ⟨b, off + i, none⟩ = some (.int .u8 (zs.getD i 0))
theorem SrcAt.below {w w' : World} {B s : Nat} {a : Option Addr} {len cap : Nat} {zs : List Int} {t : Nat} (h : SrcAt w B s a len cap zs t) (hb : Below w.heap.size w w') : SrcAt w' B s a len cap zs t :=
  ⟨(hb.cell (p := ⟨s, 0, none⟩) h.lt).trans h.code, (hb.cell (p := ⟨s, 1, none⟩) h.lt).trans h.at', (hb.frozen (p := ⟨s, 1, none⟩) h.lt).trans h.free, h.base, Nat.lt_of_lt_of_le h.lt hb.size, h.len', h.small, h.wf,
    h.cells.imp id fun ⟨b, off, ha, hl, hc⟩ => ⟨b, off, ha, hl, fun i hi => (hb.cell (p := ⟨b, off + i, none⟩) (by have := h.base; have := h.lt; show b < _; omega)).trans (hc i hi)⟩⟩
theorem SrcAt.step {w : World} {B s : Nat} {a : Option Addr} {len cap : Nat} {zs : List Int} {t : Nat} (h : SrcAt w B s a len cap zs t) (t' : Nat) : SrcAt (w.setCell ⟨s, 1, none⟩ (.int .i64 t')) B s a len cap zs t' := by
  have h1 := h.code
  have h2 := h.at'
  have h3 := h.free
  refine ⟨by simpa [go_sem] using h1, by simp [go_sem, h2], by simpa [go_sem] using h3, h.base, by simpa using h.lt, h.len', h.small, h.wf, h.cells.imp id fun ⟨b, off, ha, hl, hc⟩ => ⟨b, off, ha, hl, fun i hi => ?_⟩⟩
  have hne : b ≠ s := by have := h.base; omega
  exact (World.cell?_of_block (w := w) (Below.heap_setCell w ⟨s, 1, none⟩ _ b hne)).trans (hc i hi)
theorem SrcAt.drewN {w : World} {B s : Nat} {a : Option Addr} {len cap : Nat} {zs : List Int} {t : Nat} (h : SrcAt w B s a len cap zs t) (n : Nat) : SrcAt (w.drewN n) B s a len cap zs t := h.below (below_drewN (Below.refl _ _) n)
theorem SrcAt.alloc {w : World} {B s : Nat} {a : Option Addr} {len cap : Nat} {zs : List Int} {t : Nat} (h : SrcAt w B s a len cap zs t) (o : Obj) : SrcAt (w.alloc o) B s a len cap zs t := h.below ((Below.refl _ _).alloc (Nat.le_refl _) o)

theorem cells_lit (w : World) (ys : List Int) (T : Nat) (arr : Array Value) (h : arr = (ys.map (Value.int .i64)).toArray) : ∀ i, i < ys.length → (w.alloc (.cells arr T)).cell? ⟨w.heap.size, i, none⟩ = some (.int .i64 (ys.getD i 0)) := by
  intro i hi
  subst h
  have := (World.ownsRow_lit (base := 0) (e := T) (size := 1) w (ys.map (Value.int .i64)).toArray (min ys.length maxLen) (Nat.zero_le _) (Nat.min_le_right _ _))
  rw [cell_of_row _ w.heap.size i (ys.map (Value.int .i64)).toArray T (0, 0) (heap_alloc_new w _)]
  simp [List.getD, hi]

end Go.Proofs.YtffidkoejlebeaaDoor

namespace Go.Proofs.YtffidkoejlebeaaDoor
open Go.ChangeShapes Go.WideShapes Go.ChangeAt Go.RowKit
set_option linter.unusedVariables false
set_option linter.unusedSimpArgs false

/-- What a source leaves behind, seen from ahead of it. -/
theorem after_source {w w1 w2 : World} (hb : Below w.heap.size w w1) (ho : Only w.heap.size w1 w2) : Below w.heap.size w w2 := hb.trans (ho.below (Nat.le_refl _) hb.size)

theorem Only.grown {s : Nat} {w w' : World} (h : Only s w w') : w.grownBy w' (some s) := ⟨h.os, h.tape, h.output, h.size, fun k hk hn => h.block k hk (fun e => hn (by rw [e]))⟩
theorem Only.then_below {s : Nat} {a b c : World} (h : Only s a b) (k : Below a.heap.size b c) : Only s a c :=
  ⟨k.os.trans h.os, k.tape.trans h.tape, k.output.trans h.output, Nat.le_trans h.size k.size, fun i hi hn => (k.block i hi).trans (h.block i hi hn)⟩
theorem SrcAt.below' {w w' : World} {B s : Nat} {a : Option Addr} {len cap : Nat} {zs : List Int} {t : Nat} {N : Nat} (h : SrcAt w B s a len cap zs t) (hb : Below N w w') (hN : s < N) : SrcAt w' B s a len cap zs t :=
  ⟨(hb.cell (p := ⟨s, 0, none⟩) hN).trans h.code, (hb.cell (p := ⟨s, 1, none⟩) hN).trans h.at', (hb.frozen (p := ⟨s, 1, none⟩) hN).trans h.free, h.base, Nat.lt_of_lt_of_le h.lt hb.size, h.len', h.small, h.wf,
    h.cells.imp id fun ⟨b, off, ha, hl, hc⟩ => ⟨b, off, ha, hl, fun i hi => (hb.cell (p := ⟨b, off + i, none⟩) (by have := h.base; show b < _; omega)).trans (hc i hi)⟩⟩
theorem own_only {w w' : World} {base e size n s : Nat} {v : Value} {xs : List Value} (h : w.ownsRow base e size v n xs) (ho : Only s w w') (hs : s < base) : w'.ownsRow base e size v n xs := by
  refine h.kept ho.grown ?_
  cases hv : v.ownBlock with
  | none => exact .inl rfl
  | some g => exact .inr (by have := h.lt g hv; intro e; simp at e; omega)
theorem one_new (w : World) (x : Value) (T : Nat) : ∀ (j : Nat) (u : Value), [x][j]? = some u → (w.alloc (.cells #[x] T)).cell? ((⟨w.heap.size, 0, none⟩ : Addr).add j) = some u := by
  intro j u hj
  match j, hj with
  | 0, hj => simp at hj; subst hj; simp [Addr.add]

end Go.Proofs.YtffidkoejlebeaaDoor
