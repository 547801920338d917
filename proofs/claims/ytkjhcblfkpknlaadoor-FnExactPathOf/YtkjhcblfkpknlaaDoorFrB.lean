/- Worlds in which what lay is as it lay, but for some blocks; blocks of cells; what is marked. -/
import Derived.Test.YtkjhcblfkpknlaaDoorInts
import Derived.RangeFuncRecord
namespace Go.Proofs.YtkjhcblfkpknlaaDoor
open Go.ChangeShapes Go.WideShapes Go.ChangeAt Go.RowKit
set_option linter.unusedVariables false
set_option linter.unusedSimpArgs false

/-- What lay is as it lay, but for the blocks of a set. -/
structure Fr (M : Nat → Prop) (w w' : World) : Prop where
  os : w'.os = w.os
  tape : w'.tape = w.tape
  output : w'.output = w.output
  size : w.heap.size ≤ w'.heap.size
  block : ∀ k, k < w.heap.size → ¬ M k → w'.heap[k]? = w.heap[k]?
theorem Fr.refl (M : Nat → Prop) (w : World) : Fr M w w := ⟨rfl, rfl, rfl, Nat.le_refl _, fun _ _ _ => rfl⟩
theorem Fr.trans {M M' : Nat → Prop} {a b c : World} (h : Fr M a b) (k : Fr M' b c) (hm : ∀ i, i < a.heap.size → M' i → M i) : Fr M a c :=
  ⟨k.os.trans h.os, k.tape.trans h.tape, k.output.trans h.output, Nat.le_trans h.size k.size, fun i hi hn => (k.block i (Nat.lt_of_lt_of_le hi h.size) (fun e => hn (hm i hi e))).trans (h.block i hi hn)⟩
theorem Fr.mono {M M' : Nat → Prop} {w w' : World} (h : Fr M w w') (hm : ∀ i, M i → M' i) : Fr M' w w' := ⟨h.os, h.tape, h.output, h.size, fun i hi hn => h.block i hi (fun e => hn (hm i e))⟩
theorem Fr.of_below {M : Nat → Prop} {B : Nat} {w w' : World} (h : Below B w w') (hB : w.heap.size ≤ B) : Fr M w w' := ⟨h.os, h.tape, h.output, h.size, fun i hi _ => h.block i (by omega)⟩
theorem Fr.of_grown {M : Nat → Prop} {row : Option Nat} {w w' : World} (h : w.grownBy w' row) (hr : ∀ k, row = some k → M k) : Fr M w w' := ⟨h.os, h.tape, h.output, h.size, fun i hi hn => h.block i hi (fun e => hn (hr i e.symm))⟩
theorem Fr.setCell {M : Nat → Prop} {w w' : World} (h : Fr M w w') (p : Addr) (v : Value) (hp : M p.block) : Fr M w (w'.setCell p v) :=
  ⟨h.os, h.tape, h.output, by rw [show (w'.setCell p v).heap.size = w'.heap.size from by simp]; exact h.size, fun i hi hn => (Below.heap_setCell _ _ _ i (fun e => hn (by rw [e]; exact hp))).trans (h.block i hi hn)⟩
theorem Fr.below {M : Nat → Prop} {B : Nat} {w w' : World} (h : Fr M w w') (hM : ∀ k, M k → B ≤ k) (hB : B ≤ w.heap.size) : Below B w w' := ⟨h.os, h.tape, h.output, h.size, fun k hk => h.block k (by omega) (fun e => by have := hM k e; omega)⟩

/-- A block of cells. -/
def Blk (W : World) (b : Nat) (cs : Array Value) (T : Nat) : Prop := W.heap[b]? = some (.cells cs T (0, 0))
theorem Blk.lt {W : World} {b : Nat} {cs : Array Value} {T : Nat} (h : Blk W b cs T) : b < W.heap.size := (Array.getElem?_eq_some_iff.1 h).1
theorem Blk.cell {W : World} {b : Nat} {cs : Array Value} {T : Nat} (h : Blk W b cs T) (i : Nat) : W.cell? ⟨b, i, none⟩ = cs[i]? := by simp [World.cell?, show W.heap[b]? = _ from h]
theorem Blk.frozen {W : World} {b : Nat} {cs : Array Value} {T : Nat} (h : Blk W b cs T) (i : Nat) : W.frozen? ⟨b, i, none⟩ = false := by simp [World.frozen?, show W.heap[b]? = _ from h]
theorem Blk.new (W : World) (cs : Array Value) (T : Nat) : Blk (W.alloc (.cells cs T)) W.heap.size cs T := World.alloc_heap_new W _
theorem Blk.fr {M : Nat → Prop} {W W' : World} {b : Nat} {cs : Array Value} {T : Nat} (h : Blk W b cs T) (hf : Fr M W W') (hn : ¬ M b) : Blk W' b cs T := (hf.block b h.lt hn).trans h
theorem Blk.set {W : World} {b : Nat} {cs : Array Value} {T : Nat} (h : Blk W b cs T) (i : Nat) (v : Value) : Blk (W.setCell ⟨b, i, none⟩ v) b (cs.setIfInBounds i v) T := by
  obtain ⟨hlt, hk⟩ := Array.getElem?_eq_some_iff.1 h
  show (W.heap.modify b _)[b]? = _
  rw [Array.getElem?_eq_getElem (by rw [Array.size_modify]; exact hlt), Array.getElem_modify_self, hk]
  rfl
theorem Blk.below {W W' : World} {b : Nat} {cs : Array Value} {T : Nat} (h : Blk W b cs T) {B : Nat} (hb : Below B W W') (hB : b < B) : Blk W' b cs T := (hb.block b hB).trans h
theorem own_fr {M : Nat → Prop} {W W' : World} {base e n : Nat} {v : Value} {xs : List Value} (h : W.ownsRow base e 1 v n xs) (hf : Fr M W W') (hn : ∀ g, v.ownBlock = some g → ¬ M g) : W'.ownsRow base e 1 v n xs := by
  refine ⟨h.1, ?_⟩
  rcases h.2 with h0 | ⟨g, cap, cur, rfl, hb, hg, rest⟩
  · exact .inl h0
  · exact .inr ⟨g, cap, cur, rfl, hb, (hf.block g (Array.getElem?_eq_some_iff.1 hg).1 (hn g rfl)).trans hg, rest⟩
theorem own_cells {W : World} {base e n : Nat} {v : Value} {xs : List Value} (h : W.ownsRow base e 1 v n xs) {g : Nat} (hg : v.ownBlock = some g) : ∃ cs, W.heap[g]? = some (.cells cs e (0, 0)) := by
  rcases h.2 with ⟨rfl, _⟩ | ⟨g', cap, cur, rfl, _, hg', _⟩
  · simp [Value.ownBlock] at hg
  · obtain rfl : g' = g := by simpa [Value.ownBlock] using hg
    exact ⟨_, hg'⟩

/-- Nothing has turned but the block of a slice. -/
structure Mk (a : Option Addr) (w w' : World) : Prop where
  os : w'.os = w.os
  tape : w'.tape = w.tape
  output : w'.output = w.output
  size : w'.heap.size = w.heap.size
  block : ∀ k, (∀ ad, a = some ad → k ≠ ad.block) → w'.heap[k]? = w.heap[k]?
theorem Mk.refl (a : Option Addr) (w : World) : Mk a w w := ⟨rfl, rfl, rfl, rfl, fun _ _ => rfl⟩
theorem Mk.store {g o : Nat} {w w' : World} (h : Mk (some ⟨g, 0, none⟩) w w') (u : Value) : Mk (some ⟨g, 0, none⟩) w (w'.setCell ⟨g, o, none⟩ u) :=
  ⟨h.os, h.tape, h.output, (by simpa [World.setCell] using h.size), fun k hk => (Below.heap_setCell w' ⟨g, o, none⟩ u k (show k ≠ g from hk ⟨g, 0, none⟩ rfl)).trans (h.block k hk)⟩
theorem Mk.below {a : Option Addr} {B : Nat} {w w' : World} (h : Mk a w w') (hB : ∀ ad, a = some ad → B ≤ ad.block) : Below B w w' :=
  ⟨h.os, h.tape, h.output, Nat.le_of_eq h.size.symm, fun k hk => h.block k (fun ad had => by have := hB ad had; omega)⟩
theorem Mk.own {a : Option Addr} {w w' : World} (h : Mk a w w') {base e n : Nat} {v : Value} {xs : List Value} (ho : w.ownsRow base e 1 v n xs) (hB : ∀ ad, a = some ad → ad.block < base) : w'.ownsRow base e 1 v n xs := by
  refine ⟨ho.1, ho.2.imp id ?_⟩
  rintro ⟨g', cap, cur, e1, e2, e3, e4⟩
  exact ⟨g', cap, cur, e1, e2, (h.block g' (fun ad had => by have := hB ad had; omega)).trans e3, e4⟩
theorem own_below {w w' : World} {base e n : Nat} {v : Value} {xs : List Value} (ho : w.ownsRow base e 1 v n xs) (h : Below w.heap.size w w') : w'.ownsRow base e 1 v n xs := by
  refine ⟨ho.1, ho.2.imp id ?_⟩
  rintro ⟨g', cap, cur, e1, e2, e3, e4⟩
  exact ⟨g', cap, cur, e1, e2, (h.block g' (Array.getElem?_eq_some_iff.1 e3).1).trans e3, e4⟩
theorem own_base {w : World} {base e n c : Nat} {a : Option Addr} {xs : List Value} (ho : w.ownsRow base e 1 (.slice a n c) n xs) : ∀ ad, a = some ad → base ≤ ad.block := by
  intro ad had
  subst had
  rcases ho.2 with ⟨e1, _⟩ | ⟨g, _, _, e1, hb, _⟩
  · simp at e1
  · simp at e1
    rw [e1.1]
    exact hb

/-- The numbers that are marked from k on. -/
def markN (k : Int) (n : Nat) : List Int := (List.range n).map fun (i : Nat) => (k + (i : Int)) 
theorem markN_len (k : Int) (n : Nat) : (markN k n).length = n := by simp [markN]
theorem markN_wf (k : Int) (n : Nat) (h0 : 0 ≤ k) (h1 : k ≤ 8388608) (hn : n ≤ 2097152) : ∀ x ∈ markN k n, (Lit.int .i64 x).wf = true := by
  intro x hx
  simp [markN] at hx
  obtain ⟨i, _, rfl⟩ := hx
  exact WalkArith.wf_i64 (by omega)
theorem markN_get (k : Int) (n i : Nat) (h : i < n) : (markN k n).getD i 0 = (k + (i : Int))  := by
  simp [markN, List.getD, List.getElem?_map, h]
def markQ (k : Int) (zs : List Int) (j : Nat) : List Value := (markN k j ++ zs.drop j).map (.int .i64)
theorem markQ_zero (k : Int) (zs : List Int) : markQ k zs 0 = zs.map (.int .i64) := by simp [markQ, markN]
theorem markQ_all (k : Int) (zs : List Int) : markQ k zs zs.length = (markN k zs.length).map (.int .i64) := by simp [markQ]
theorem markQ_set (k : Int) (zs : List Int) (j : Nat) (h : j < zs.length) : (markQ k zs j).set j (.int .i64 ((k + (j : Int)) )) = markQ k zs (j + 1) := by
  unfold markQ
  rw [← List.map_set, List.set_append_right _ _ (by rw [markN_len]; omega), markN_len, Nat.sub_self, List.drop_eq_getElem_cons h, List.set_cons_zero]
  have e : markN k (j + 1) = markN k j ++ [(k + (j : Int)) ] := by simp [markN, List.range_succ]
  rw [e, List.append_assoc]
  rfl
theorem markQ_cell (k : Int) (zs : List Int) (j : Nat) (h : j < zs.length) : (markQ k zs j)[j]? = some (.int .i64 zs[j]) := by
  unfold markQ
  rw [List.getElem?_map, List.getElem?_append_right (by rw [markN_len]; omega), markN_len, Nat.sub_self, List.drop_eq_getElem_cons h]
  rfl

/-- Nothing has turned but what lies from one block up to another. -/
abbrev Ex (lo hi : Nat) (w w' : World) : Prop := Fr (fun b => lo ≤ b ∧ b < hi) w w'
theorem Ex.on {lo hi : Nat} {w u u' : World} (h : Ex lo hi w u) (hb : Below u.heap.size u u') : Ex lo hi w u' := Fr.trans (M' := fun _ => False) h (.of_below hb (Nat.le_refl _)) (fun _ _ e => e.elim)
theorem Ex.fr {M : Nat → Prop} {lo hi hi' : Nat} {w u u' : World} (h : Ex lo hi w u) (k : Fr M u u') (hm : ∀ b, M b → lo ≤ b ∧ b < hi') (hh : hi ≤ hi') : Ex lo hi' w u' :=
  Fr.trans (M := fun b => lo ≤ b ∧ b < hi') (Fr.mono h (fun b e => ⟨e.1, Nat.lt_of_lt_of_le e.2 hh⟩)) k (fun i _ e => hm i e)
theorem Ex.mk {a : Option Addr} {lo hi hi' : Nat} {w u u' : World} (h : Ex lo hi w u) (k : Mk a u u') (hm : ∀ ad, a = some ad → lo ≤ ad.block ∧ ad.block < hi') (hh : hi ≤ hi') : Ex lo hi' w u' :=
  Ex.fr (M := fun b => ∃ ad, a = some ad ∧ b = ad.block) h ⟨k.os, k.tape, k.output, Nat.le_of_eq k.size.symm, fun i _ hn => k.block i (fun ad had e => hn ⟨ad, had, e⟩)⟩ (fun b e => by obtain ⟨ad, h1, rfl⟩ := e; exact hm ad h1) hh
theorem Ex.low {lo hi : Nat} {w u : World} (h : Ex lo hi w u) (hl : lo ≤ w.heap.size) : Below lo w u := Fr.below h (fun _ e => e.1) hl
theorem Ex.of {lo : Nat} {w u : World} (h : Below w.heap.size w u) : Ex lo lo w u := Fr.of_below h (Nat.le_refl _)
theorem own_ex {lo hi : Nat} {w u : World} {base e n : Nat} {v : Value} {xs : List Value} (h : w.ownsRow base e 1 v n xs) (k : Ex lo hi w u) (hb : hi ≤ base) : u.ownsRow base e 1 v n xs :=
  own_fr h k (fun g e1 e2 => by have := (h.lt g e1).1; have := e2.2; omega)
theorem Blk.ex {lo hi : Nat} {w u : World} {b : Nat} {cs : Array Value} {T : Nat} (h : Blk w b cs T) (k : Ex lo hi w u) (hb : b < lo ∨ hi ≤ b) : Blk u b cs T := h.fr k (fun e => by have := e.1; have := e.2; omega)

/-- A variable of three cells that was made: behind calls it is as it was. -/
theorem var3 {V ua : World} {c0 c1 c2 : Value} {T : Nat} (h : Below (V.alloc (.cells #[c0, c1, c2] T)).heap.size (V.alloc (.cells #[c0, c1, c2] T)) ua) : (ua.cell? ⟨V.heap.size, 0, none⟩ = some c0 ∧ ua.cell? ⟨V.heap.size, 1, none⟩ = some c1 ∧ ua.cell? ⟨V.heap.size, 2, none⟩ = some c2) ∧ (ua.frozen? ⟨V.heap.size, 0, none⟩ = false ∧ ua.frozen? ⟨V.heap.size, 1, none⟩ = false ∧ ua.frozen? ⟨V.heap.size, 2, none⟩ = false) ∧ V.heap.size < ua.heap.size := by
  have hs := h.size
  simp at hs
  have hc : ∀ o, ua.cell? ⟨V.heap.size, o, none⟩ = (V.alloc (.cells #[c0, c1, c2] T)).cell? ⟨V.heap.size, o, none⟩ := fun o => h.cell (p := ⟨V.heap.size, o, none⟩) (by simp)
  have hf : ∀ o, ua.frozen? ⟨V.heap.size, o, none⟩ = (V.alloc (.cells #[c0, c1, c2] T)).frozen? ⟨V.heap.size, o, none⟩ := fun o => h.frozen (p := ⟨V.heap.size, o, none⟩) (by simp)
  refine ⟨⟨(hc 0).trans (by simp [go_sem]), (hc 1).trans (by simp [go_sem]), (hc 2).trans (by simp [go_sem])⟩, ⟨(hf 0).trans (by simp [go_sem]), (hf 1).trans (by simp [go_sem]), (hf 2).trans (by simp [go_sem])⟩, by omega⟩
theorem var_on {A : World} {u u' : World} (h : Below A.heap.size A u) (k : Below u.heap.size u u') : Below A.heap.size A u' := h.trans (k.mono h.size)
theorem var_drew {V : World} {O : Obj} {u : World} (h : Below (V.alloc O).drew.heap.size (V.alloc O).drew u) : Below (V.alloc O).heap.size (V.alloc O) u := ((Below.refl (V.alloc O).heap.size (V.alloc O)).drew).trans h
theorem var4 {V ua : World} {c0 c1 c2 c3 : Value} {T : Nat} (h : Below (V.alloc (.cells #[c0, c1, c2, c3] T)).heap.size (V.alloc (.cells #[c0, c1, c2, c3] T)) ua) : (ua.cell? ⟨V.heap.size, 0, none⟩ = some c0 ∧ ua.cell? ⟨V.heap.size, 1, none⟩ = some c1 ∧ ua.cell? ⟨V.heap.size, 2, none⟩ = some c2 ∧ ua.cell? ⟨V.heap.size, 3, none⟩ = some c3) ∧ (ua.frozen? ⟨V.heap.size, 0, none⟩ = false ∧ ua.frozen? ⟨V.heap.size, 1, none⟩ = false ∧ ua.frozen? ⟨V.heap.size, 2, none⟩ = false ∧ ua.frozen? ⟨V.heap.size, 3, none⟩ = false) := by
  have hc : ∀ o, ua.cell? ⟨V.heap.size, o, none⟩ = (V.alloc (.cells #[c0, c1, c2, c3] T)).cell? ⟨V.heap.size, o, none⟩ := fun o => h.cell (p := ⟨V.heap.size, o, none⟩) (by simp)
  have hf : ∀ o, ua.frozen? ⟨V.heap.size, o, none⟩ = (V.alloc (.cells #[c0, c1, c2, c3] T)).frozen? ⟨V.heap.size, o, none⟩ := fun o => h.frozen (p := ⟨V.heap.size, o, none⟩) (by simp)
  exact ⟨⟨(hc 0).trans (by simp [go_sem]), (hc 1).trans (by simp [go_sem]), (hc 2).trans (by simp [go_sem]), (hc 3).trans (by simp [go_sem])⟩, ⟨(hf 0).trans (by simp [go_sem]), (hf 1).trans (by simp [go_sem]), (hf 2).trans (by simp [go_sem]), (hf 3).trans (by simp [go_sem])⟩⟩
theorem var2 {V ua : World} {c0 c1 : Value} {T : Nat} (h : Below (V.alloc (.cells #[c0, c1] T)).heap.size (V.alloc (.cells #[c0, c1] T)) ua) : ua.cell? ⟨V.heap.size, 0, none⟩ = some c0 ∧ ua.cell? ⟨V.heap.size, 1, none⟩ = some c1 := by
  have hc : ∀ o, ua.cell? ⟨V.heap.size, o, none⟩ = (V.alloc (.cells #[c0, c1] T)).cell? ⟨V.heap.size, o, none⟩ := fun o => h.cell (p := ⟨V.heap.size, o, none⟩) (by simp)
  exact ⟨(hc 0).trans (by simp [go_sem]), (hc 1).trans (by simp [go_sem])⟩

end Go.Proofs.YtkjhcblfkpknlaaDoor
