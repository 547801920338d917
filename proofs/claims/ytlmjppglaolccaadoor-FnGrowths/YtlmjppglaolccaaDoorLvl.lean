/- What the rounds over the pairs of a level leave of memory. -/
import Derived.Test.YtlmjppglaolccaaDoorPairs
import Derived.Test.YtlmjppglaolccaaDoorApp
namespace Go.Proofs.YtlmjppglaolccaaDoor
open Go.ChangeShapes Go.WideShapes Go.ChangeAt Go.RowKit
set_option linter.unusedVariables false
set_option linter.unusedSimpArgs false

/-- What lay is as it lay, but for the blocks of a set. -/
structure Fr (M : Nat → Prop) (w w' : World) : Prop where
  os : w'.os = w.os
  tape : w'.tape = w.tape
  output : w'.output = w.output
  size : w.heap.size ≤ w'.heap.size
  block : ∀ k, k < w.heap.size → ¬ M k → w'.heap[k]? = w.heap[k]?
theorem Fr.refl (M : Nat → Prop) (w : World) : Fr M w w := ⟨rfl, rfl, rfl, Nat.le_refl _, fun _ _ _ => rfl⟩
theorem Fr.trans {M M' : Nat → Prop} {a b c : World} (h : Fr M a b) (k : Fr M' b c) (hm : ∀ i, i < a.heap.size → M' i → M i) : Fr M a c :=
  ⟨k.os.trans h.os, k.tape.trans h.tape, k.output.trans h.output, Nat.le_trans h.size k.size, fun i hi hn => (k.block i (Nat.lt_of_lt_of_le hi h.size) (fun e => hn (hm i hi e))).trans (h.block i hi hn)⟩
theorem Fr.mono {M M' : Nat → Prop} {w w' : World} (h : Fr M w w') (hm : ∀ i, M i → M' i) : Fr M' w w' := ⟨h.os, h.tape, h.output, h.size, fun i hi hn => h.block i hi (fun e => hn (hm i e))⟩
theorem Fr.of_below {M : Nat → Prop} {B : Nat} {w w' : World} (h : Below B w w') (hB : w.heap.size ≤ B) : Fr M w w' := ⟨h.os, h.tape, h.output, h.size, fun i hi _ => h.block i (by omega)⟩
theorem Fr.of_grown {M : Nat → Prop} {row : Option Nat} {w w' : World} (h : w.grownBy w' row) (hr : ∀ k, row = some k → M k) : Fr M w w' := ⟨h.os, h.tape, h.output, h.size, fun i hi hn => h.block i hi (fun e => hn (hr i e.symm))⟩
theorem Fr.setCell {M : Nat → Prop} {w w' : World} (h : Fr M w w') (p : Addr) (v : Value) (hp : M p.block) : Fr M w (w'.setCell p v) :=
  ⟨h.os, h.tape, h.output, by rw [show (w'.setCell p v).heap.size = w'.heap.size from by simp]; exact h.size, fun i hi hn => (Below.heap_setCell _ _ _ i (fun e => hn (by rw [e]; exact hp))).trans (h.block i hi hn)⟩
theorem Fr.below {M : Nat → Prop} {B : Nat} {w w' : World} (h : Fr M w w') (hM : ∀ k, M k → B ≤ k) (hB : B ≤ w.heap.size) : Below B w w' := ⟨h.os, h.tape, h.output, h.size, fun k hk => h.block k (by omega) (fun e => by have := hM k e; omega)⟩

/-- A block of cells. -/
def Blk (W : World) (b : Nat) (cs : Array Value) (T : Nat) : Prop := W.heap[b]? = some (.cells cs T (0, 0))
theorem Blk.lt {W : World} {b : Nat} {cs : Array Value} {T : Nat} (h : Blk W b cs T) : b < W.heap.size := (Array.getElem?_eq_some_iff.1 h).1
theorem Blk.cell {W : World} {b : Nat} {cs : Array Value} {T : Nat} (h : Blk W b cs T) (i : Nat) : W.cell? ⟨b, i, none⟩ = cs[i]? := by simp [World.cell?, show W.heap[b]? = _ from h]
theorem Blk.frozen {W : World} {b : Nat} {cs : Array Value} {T : Nat} (h : Blk W b cs T) (i : Nat) : W.frozen? ⟨b, i, none⟩ = false := by simp [World.frozen?, show W.heap[b]? = _ from h]
theorem Blk.new (W : World) (cs : Array Value) (T : Nat) : Blk (W.alloc (.cells cs T)) W.heap.size cs T := World.alloc_heap_new W _
theorem Blk.fr {M : Nat → Prop} {W W' : World} {b : Nat} {cs : Array Value} {T : Nat} (h : Blk W b cs T) (hf : Fr M W W') (hn : ¬ M b) : Blk W' b cs T := (hf.block b h.lt hn).trans h
theorem Blk.set {W : World} {b : Nat} {cs : Array Value} {T : Nat} (h : Blk W b cs T) (i : Nat) (v : Value) : Blk (W.setCell ⟨b, i, none⟩ v) b (cs.setIfInBounds i v) T := by
  obtain ⟨hlt, hk⟩ := Array.getElem?_eq_some_iff.1 h
  show (W.heap.modify b _)[b]? = _
  rw [Array.getElem?_eq_getElem (by rw [Array.size_modify]; exact hlt), Array.getElem_modify_self, hk]
  rfl
theorem Blk.below {W W' : World} {b : Nat} {cs : Array Value} {T : Nat} (h : Blk W b cs T) {B : Nat} (hb : Below B W W') (hB : b < B) : Blk W' b cs T := (hb.block b hB).trans h
theorem own_fr {M : Nat → Prop} {W W' : World} {base e n : Nat} {v : Value} {xs : List Value} (h : W.ownsRow base e 1 v n xs) (hf : Fr M W W') (hn : ∀ g, v.ownBlock = some g → ¬ M g) : W'.ownsRow base e 1 v n xs := by
  refine ⟨h.1, ?_⟩
  rcases h.2 with h0 | ⟨g, cap, cur, rfl, hb, hg, rest⟩
  · exact .inl h0
  · exact .inr ⟨g, cap, cur, rfl, hb, (hf.block g (Array.getElem?_eq_some_iff.1 hg).1 (hn g rfl)).trans hg, rest⟩
theorem own_cells {W : World} {base e n : Nat} {v : Value} {xs : List Value} (h : W.ownsRow base e 1 v n xs) {g : Nat} (hg : v.ownBlock = some g) : ∃ cs, W.heap[g]? = some (.cells cs e (0, 0)) := by
  rcases h.2 with ⟨rfl, _⟩ | ⟨g', cap, cur, rfl, _, hg', _⟩
  · simp [Value.ownBlock] at hg
  · obtain rfl : g' = g := by simpa [Value.ownBlock] using hg
    exact ⟨_, hg'⟩

/-- The state of the rounds: where the answer and the level above lie, and what they hold. -/
structure InS (base C V : Nat) (W0 : World) (pv0 : Value) (r : Int) (ps us : List Int) (W : World) (pv av : Value) : Prop where
  c : Blk W C #[.int .i64 r, pv] 74
  v : Blk W V #[av] 24
  prow : W.ownsRow base 2 1 pv ps.length (ps.map (.int .i64))
  arow : W.ownsRow W0.heap.size 2 1 av us.length (us.map (.int .i64))
  apart : ∀ g, pv.ownBlock = some g → av.ownBlock ≠ some g
  old : ∀ g, pv.ownBlock = some g → W0.heap.size ≤ g ∨ pv0.ownBlock = some g
  fr : Fr (fun k => k = C ∨ k = V ∨ pv0.ownBlock = some k) W0 W
theorem InS.below {base C V : Nat} {W0 W W' : World} {pv0 pv av : Value} {r : Int} {ps us : List Int} (h : InS base C V W0 pv0 r ps us W pv av) (hb : Below W.heap.size W W') : InS base C V W0 pv0 r ps us W' pv av :=
  ⟨h.c.below hb h.c.lt, h.v.below hb h.v.lt, own_fr (M := fun _ => False) h.prow (.of_below hb (Nat.le_refl _)) (fun _ _ => id), own_fr (M := fun _ => False) h.arow (.of_below hb (Nat.le_refl _)) (fun _ _ => id), h.apart, h.old, h.fr.trans (M' := fun _ => False) (.of_below hb (Nat.le_refl _)) (fun _ _ e => e.elim)⟩
theorem InS.kept {base C V : Nat} {W0 W W' : World} {pv0 pv av : Value} {r : Int} {ps us : List Int} {row : Option Nat} (h : InS base C V W0 pv0 r ps us W pv av) (hC : C < W0.heap.size) (hV : V < W0.heap.size) (hg : W.grownBy W' row) (hr : ∀ k, row = some k → W0.heap.size ≤ k ∧ ∃ o : Obj, W.heap[k]? = some o ∧ o.isCells = false) : InS base C V W0 pv0 r ps us W' pv av := by
  have hf : Fr (fun k => row = some k) W W' := .of_grown hg (fun k e => e)
  refine ⟨h.c.fr hf (fun e => by have := (hr C e).1; omega), h.v.fr hf (fun e => by have := (hr V e).1; omega), own_fr h.prow hf (fun g e1 e2 => ?_), own_fr h.arow hf (fun g e1 e2 => ?_), h.apart, h.old, h.fr.trans hf (fun i hi e => by have := (hr i e).1; omega)⟩
  · obtain ⟨cs, hc⟩ := own_cells h.prow e1
    obtain ⟨_, o, ho, hn⟩ := hr g e2
    rw [hc] at ho; cases ho; cases hn
  · obtain ⟨cs, hc⟩ := own_cells h.arow e1
    obtain ⟨_, o, ho, hn⟩ := hr g e2
    rw [hc] at ho; cases ho; cases hn

theorem InS.appendV {base C V : Nat} {W0 W W2 W3 : World} {pv0 pv av av' : Value} {r x : Int} {ps us : List Int} (h : InS base C V W0 pv0 r ps us W pv av) (hC : C < W0.heap.size) (hV : V < W0.heap.size) (hCV : C ≠ V) (hpV : pv0.ownBlock ≠ some V)
    (hb : Below W.heap.size W W2) (hown : W3.ownsRow W0.heap.size 2 1 av' (us.length + 1) (us.map (.int .i64) ++ [.int .i64 x])) (hg : W2.grownBy W3 av.ownBlock) (hn : av'.ownBlock = av.ownBlock ∨ av'.ownBlock = some W2.heap.size) :
    InS base C V W0 pv0 r ps (us ++ [x]) (W3.setCell ⟨V, 0, none⟩ av') pv av' ∧ Fr (fun k => k = V ∨ av.ownBlock = some k) W (W3.setCell ⟨V, 0, none⟩ av') ∧ Blk W3 V #[av] 24 := by
  have h2 := h.below hb
  have f3 : Fr (fun k => av.ownBlock = some k) W2 W3 := .of_grown hg (fun k e => e)
  have hav : ∀ k, av.ownBlock = some k → W0.heap.size ≤ k := fun k e => (h2.arow.lt k e).1
  have v3 : Blk W3 V #[av] 24 := h2.v.fr f3 (fun e => by have := hav V e; omega)
  have c3 : Blk W3 C _ _ := h2.c.fr f3 (fun e => by have := hav C e; omega)
  have p3 := own_fr h2.prow f3 (fun g e1 e2 => h2.apart g e1 e2)
  have fs : Fr (fun k => k = V) W3 (W3.setCell ⟨V, 0, none⟩ av') := (Fr.refl _ _).setCell _ _ rfl
  refine ⟨⟨c3.fr fs hCV, by have := v3.set 0 av'; simpa using this, own_fr p3 fs (fun g e1 e2 => ?_), ?_, fun g e1 e2 => ?_, h.old, ?_⟩, ?_, v3⟩
  · subst e2
    rcases h.old g e1 with h4 | h4
    · omega
    · exact hpV h4
  · have := own_fr hown fs (fun g e1 e2 => by have := (hown.lt g e1).1; omega)
    simpa using this
  · rcases hn with h5 | h5
    · rw [h5] at e2; exact h.apart g e1 e2
    · rw [h5] at e2
      have := (h2.prow.lt g e1).2
      simp at e2
      omega
  · refine (h2.fr.trans f3 (fun i hi e => ?_)).trans fs (fun i hi e => .inr (.inl e))
    have := hav i e; omega
  · exact ((Fr.of_below hb (Nat.le_refl _)).trans f3 (fun i _ e => .inr e)).trans fs (fun i _ e => .inl e)

theorem InS.appendC {base C V : Nat} {W0 W W2 W3 : World} {pv0 pv av pv' : Value} {r x : Int} {ps us : List Int} (h : InS base C V W0 pv0 r ps us W pv av) (hC : C < W0.heap.size) (hV : V < W0.heap.size) (hCV : C ≠ V) (hpC : pv0.ownBlock ≠ some C) (hpV : pv0.ownBlock ≠ some V)
    (hb : Below W.heap.size W W2) (hown : W3.ownsRow base 2 1 pv' (ps.length + 1) (ps.map (.int .i64) ++ [.int .i64 x])) (hg : W2.grownBy W3 pv.ownBlock) (hn : pv'.ownBlock = pv.ownBlock ∨ pv'.ownBlock = some W2.heap.size) :
    InS base C V W0 pv0 r (ps ++ [x]) us (W3.setCell ⟨C, 1, none⟩ pv') pv' av ∧ Fr (fun k => k = C ∨ pv.ownBlock = some k) W (W3.setCell ⟨C, 1, none⟩ pv') ∧ Blk W3 C #[.int .i64 r, pv] 74 := by
  have h2 := h.below hb
  have hs : W0.heap.size ≤ W2.heap.size := h2.fr.size
  have f3 : Fr (fun k => pv.ownBlock = some k) W2 W3 := .of_grown hg (fun k e => e)
  have npC : pv.ownBlock ≠ some C := fun e => by
    rcases h.old C e with h4 | h4
    · omega
    · exact hpC h4
  have npV : pv.ownBlock ≠ some V := fun e => by
    rcases h.old V e with h4 | h4
    · omega
    · exact hpV h4
  have v3 : Blk W3 V #[av] 24 := h2.v.fr f3 npV
  have c3 : Blk W3 C #[.int .i64 r, pv] 74 := h2.c.fr f3 npC
  have a3 := own_fr h2.arow f3 (fun g e1 e2 => h2.apart g e2 e1)
  have fs : Fr (fun k => k = C) W3 (W3.setCell ⟨C, 1, none⟩ pv') := (Fr.refl _ _).setCell _ _ rfl
  refine ⟨⟨by have := c3.set 1 pv'; simpa using this, v3.fr fs (fun e => hCV e.symm), ?_, own_fr a3 fs (fun g e1 e2 => by have := (h2.arow.lt g e1).1; omega), fun g e1 e2 => ?_, fun g e1 => ?_, ?_⟩, ?_, c3⟩
  · have := own_fr hown fs (fun g e1 e2 => by
      subst e2
      rcases hn with h5 | h5
      · rw [h5] at e1; exact npC e1
      · rw [h5] at e1; simp at e1; omega)
    simpa using this
  · rcases hn with h5 | h5
    · rw [h5] at e1; exact h.apart g e1 e2
    · rw [h5] at e1
      have := (h2.arow.lt g e2).2
      simp at e1
      omega
  · rcases hn with h5 | h5
    · rw [h5] at e1; exact h.old g e1
    · rw [h5] at e1; simp at e1; exact .inl (by omega)
  · refine (h2.fr.trans f3 (fun i hi e => ?_)).trans fs (fun i hi e => .inl e)
    rcases h.old i e with h4 | h4
    · omega
    · exact .inr (.inr h4)
  · exact ((Fr.of_below hb (Nat.le_refl _)).trans f3 (fun i _ e => .inr e)).trans fs (fun i _ e => .inl e)

/-- What a round owes to the loop over the iterator. -/
theorem InS.pays {base C V B bl : Nat} {W0 W W' : World} {pv0 pv av : Value} {r : Int} {ps us : List Int} (h : InS base C V W0 pv0 r ps us W pv av) (hC : C < W0.heap.size) (hV : V < W0.heap.size)
    (hB : B < W0.heap.size) (hbl : bl < W0.heap.size) (nB : B ≠ C ∧ B ≠ V ∧ pv0.ownBlock ≠ some B) (nb : bl ≠ C ∧ bl ≠ V ∧ pv0.ownBlock ≠ some bl)
    (hf : Fr (fun k => k = C ∨ k = V ∨ pv.ownBlock = some k ∨ av.ownBlock = some k) W W') : KeepsFrom W0.heap.size W W' ∧ KpB (fun k => k = B ∨ k = bl) W W' := by
  refine ⟨⟨hf.size, fun k o hk ho hn => ?_⟩, fun k hk => ?_⟩
  · refine (hf.block k (Array.getElem?_eq_some_iff.1 ho).1 ?_).trans ho
    rintro (e | e | e | e)
    · omega
    · omega
    · obtain ⟨cs, hc⟩ := own_cells h.prow e
      rw [hc] at ho; cases ho; cases hn
    · obtain ⟨cs, hc⟩ := own_cells h.arow e
      rw [hc] at ho; cases ho; cases hn
  · have hk0 : k < W0.heap.size ∧ k ≠ C ∧ k ≠ V ∧ pv0.ownBlock ≠ some k := by
      rcases hk with rfl | rfl
      · exact ⟨hB, nB⟩
      · exact ⟨hbl, nb⟩
    refine hf.block k (Nat.lt_of_lt_of_le hk0.1 h.fr.size) ?_
    rintro (e | e | e | e)
    · exact hk0.2.1 e
    · exact hk0.2.2.1 e
    · rcases h.old k e with h4 | h4
      · omega
      · exact hk0.2.2.2 h4
    · have := (h.arow.lt k e).1
      omega

/-- One number appended to a row of one's own, at a step of a region that draws. -/
theorem step_app1 {P : Program} {ops : Array Oper} {o : Oper} {a : Act} {w : World} {K : Act → World → Prop} {Q : Exit → Act → World → Prop} {E : Prop} (hgd : o.guard = none) (s x : Operand) (t : TypeId)
    (ho : o.op = .call { callee := .builtin .append, args := #[s, x], argTypes := #[t, t] }) (base e : TypeId) (i : TypeInfo) (ht : P.underlying t = some (.slice e)) (hi : P.info? e = some i) (hz : i.zero = some (.int .i64 0)) (hsize : i.size = 1) (hby : i.bytes = 8)
    (v : Value) (n : Nat) (xs : List Value) (hs : a.eval s = v) (hown : w.ownsRow base e 1 v n xs) (g c : Nat) (y : Int) (hx : a.eval x = .slice (some ⟨g, 0, none⟩) 1 c) (hy : w.cell? ⟨g, 0, none⟩ = some (.int .i64 y)) (hn : n ≤ 1000) (hbase : base ≤ w.heap.size)
    (h : ∀ g' c' w', w'.ownsRow base e 1 (.slice (some ⟨g', 0, none⟩) (n + 1) c') (n + 1) (xs ++ [.int .i64 y]) → w.grownBy w' v.ownBlock → ((Value.slice (some ⟨g', 0, none⟩) (n + 1) c').ownBlock = v.ownBlock ∨ (Value.slice (some ⟨g', 0, none⟩) (n + 1) c').ownBlock = some w.heap.size) → K (a.put o.dst (.slice (some ⟨g', 0, none⟩) (n + 1) c')) w') :
    if Region.wanted o (yielded ops a.tmps) = true then Oper.wp P o a w K Q else E := by
  have hw : Region.wanted o (yielded ops a.tmps) = true := by simp [Region.wanted, hgd]
  rw [if_pos hw]
  obtain ⟨v', w', hr, h2, h3, _, h5⟩ := run_append_own_at (P := P) w base t o.type e i (.int .i64 0) 1 8 ht hi hz hsize hby rfl (by decide) v n xs hown ⟨g, 0, none⟩ 1 c [.int .i64 y] rfl
    (fun j u hu => by
      match j with
      | 0 => simp at hu; subst hu; exact hy
      | j + 1 => simp at hu) (by intro u hu; simp at hu; subst hu; rfl) (by unfold maxLen; omega) (by omega) hbase
  obtain ⟨g', c', rfl⟩ := ownsRow_succ h2
  unfold Oper.wp execOp
  simp only [ho, resolve, invoke, builtin, Sem.run_bind, Sem.run_pure, Result.andThen_ok, List.map_toArray, List.map_cons, List.map_nil, hs, hx, hr]
  exact h g' c' w' h2 h3 h5

end Go.Proofs.YtlmjppglaolccaaDoor
