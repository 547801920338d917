/- Slots in memory: slices of slots that are read; copied, measured and held against each other by the laws. -/
import Derived.Test.YtjjddjohckcmbaaDoorSlD0
import Derived.Test.YtjjddjohckcmbaaDoorFrB
import Derived.Test.YtjjddjohckcmbaaDoorKeep
import Derived.Deep.SlicePairs
namespace Go.Proofs.YtjjddjohckcmbaaDoor
open Go.ChangeShapes Go.WideShapes Go.ChangeAt Go.RowKit
set_option linter.unusedVariables false
set_option linter.unusedSimpArgs false

/-- The numbers of slots, one behind the other. -/
def flat : List Sl → List Int
  | [] => []
  | s :: r => s.1 :: s.2 :: flat r
theorem flat_len (l : List Sl) : (flat l).length = l.length * 2 := by induction l with | nil => rfl | cons s r ih => simp only [flat, List.length_cons, ih]; omega
theorem flat_app (l m : List Sl) : flat (l ++ m) = flat l ++ flat m := by induction l with | nil => rfl | cons s r ih => simp [flat, ih]
theorem flat_get (l : List Sl) (k : Nat) (h : k < l.length) : (flat l)[k * 2]? = some l[k].1 ∧ (flat l)[k * 2 + 1]? = some l[k].2 := by
  induction l generalizing k with
  | nil => simp at h
  | cons s r ih =>
    cases k with
    | zero => exact ⟨rfl, rfl⟩
    | succ j =>
      have := ih j (by simpa using h)
      have e1 : (j + 1) * 2 = j * 2 + 1 + 1 := by omega
      rw [e1]
      simpa [flat] using this
theorem flat_mem {l : List Sl} {n : Int} (h : n ∈ flat l) : ∃ s ∈ l, n = s.1 ∨ n = s.2 := by
  induction l with
  | nil => cases h
  | cons s r ih =>
    simp only [flat, List.mem_cons] at h
    rcases h with h | h | h
    · exact ⟨s, by simp, .inl h⟩
    · exact ⟨s, by simp, .inr h⟩
    · obtain ⟨x, hx, e⟩ := ih h; exact ⟨x, by simp [hx], e⟩
/-- Each number is one of 64 bits. -/
def WfS (l : List Sl) : Prop := ∀ s ∈ l, (Lit.int .i64 s.1).wf = true ∧ (Lit.int .i64 s.2).wf = true
theorem WfS.flat {l : List Sl} (h : WfS l) : ∀ n ∈ flat l, (Lit.int .i64 n).wf = true := by
  intro n hn
  obtain ⟨s, hs, rfl | rfl⟩ := flat_mem hn
  · exact (h s hs).1
  · exact (h s hs).2
/-- A slice of slots that is only read. -/
def HasS (w : World) (a : Option Addr) (l : List Sl) : Prop := Has w .i64 a (l.length * 2) (flat l)
theorem HasS.below {w w' : World} {a : Option Addr} {l : List Sl} (h : HasS w a l) {B : Nat} (hb : Below B w w') (hB : w.heap.size ≤ B) : HasS w' a l := Has.below h hb hB
theorem HasS.alloc {w : World} {a : Option Addr} {l : List Sl} (h : HasS w a l) (O : Obj) : HasS (w.alloc O) a l := Has.alloc h O
theorem HasS.wf {w : World} {a : Option Addr} {l : List Sl} (h : HasS w a l) : WfS l := by
  intro s hs
  obtain ⟨i, hi, rfl⟩ := List.getElem_of_mem hs
  obtain ⟨e1, e2⟩ := flat_get l i hi
  exact ⟨h.2.1 _ (List.mem_of_getElem? e1), h.2.1 _ (List.mem_of_getElem? e2)⟩
theorem HasS.cells {w : World} {a : Option Addr} {l : List Sl} (h : HasS w a l) : l = [] ∨ ∃ b off, a = some ⟨b, off, none⟩ ∧ b < w.heap.size ∧ ∀ i (hi : i < l.length), w.cell? ⟨b, off + i * 2, none⟩ = some (.int .i64 l[i].1) ∧ w.cell? ⟨b, off + i * 2 + 1, none⟩ = some (.int .i64 l[i].2) := by
  rcases h.2.2 with h0 | ⟨b, off, ha, hb, hc⟩
  · exact .inl (List.eq_nil_of_length_eq_zero (by omega))
  · refine .inr ⟨b, off, ha, hb, fun i hi => ?_⟩
    obtain ⟨e1, e2⟩ := flat_get l i hi
    have h1 := hc (i * 2) (by omega)
    have h2 := hc (i * 2 + 1) (by omega)
    rw [List.getD_eq_getElem?_getD, e1] at h1
    rw [List.getD_eq_getElem?_getD, e2] at h2
    exact ⟨h1, by rw [Nat.add_assoc]; exact h2⟩
/-- A slice of slots that came in. -/
def IsSls (w : World) (a : Option Addr) (len cap : Nat) (l : List Sl) : Prop := len ≤ cap ∧ cap ≤ maxLen ∧ l.length = len ∧ HasS w a l
theorem sls_of_trod {H : Type} {enc : TypeId × Value → H} {P : Program} {w : World} {base : Nat} {held : Bool} {fuel : Nat} {t e : TypeId} {f0 f1 : Field} {v : Value} {x : DataW H × List MemPlace} (ht : P.underlying t = some (.slice e)) (he : P.underlying e = some (.struct #[f0, f1])) (hq0 : P.underlying f0.type = some (.int .i64)) (hq1 : P.underlying f1.type = some (.int .i64)) (ce : P.cellsOf e = 2) (o0 : f0.offset = 0) (o1 : f1.offset = 1) (c0 : P.cellsOf f0.type = 1) (c1 : P.cellsOf f1.type = 1)
    (h : DataW.trod enc P w base (fun _ => true) held fuel t [v] = some x) : ∃ a len cap l, v = .slice a len cap ∧ IsSls w a len cap l := by
  rcases Go.Deep.open_slice_pairs ht he ce o0 o1 c0 c1 h with ⟨hcs, _⟩ | ⟨a, len, cap, m, n, V0, V1, D0, D1, P0, P1, hcs, _, hl, hm, hmm, _, hr⟩
  · simp at hcs
    exact ⟨none, 0, 0, [], hcs, Nat.le_refl _, Nat.zero_le _, rfl, rfl, by simp [flat], .inl rfl⟩
  · simp at hcs
    have hml : len ≤ m := by simp at hmm; omega
    have each : ∀ i, i < len → ∃ s : Sl, V0 i = .int .i64 s.1 ∧ V1 i = .int .i64 s.2 ∧ (Lit.int .i64 s.1).wf = true ∧ (Lit.int .i64 s.2).wf = true := by
      intro i hi
      obtain ⟨_, _, t0, t1⟩ := hr i (by omega)
      obtain ⟨k0, q0, _, w0⟩ := DataW.trod_int hq0 t0
      obtain ⟨k1, q1, _, w1⟩ := DataW.trod_int hq1 t1
      simp at q0 q1
      exact ⟨(k0, k1), q0, q1, w0, w1⟩
    obtain ⟨S, hS⟩ := Go.Deep.choose_lt each
    refine ⟨some a, len, cap, (List.range len).map S, hcs, hl, hm, by simp, ?_⟩
    have hlen : ((List.range len).map S).length = len := by simp
    have hget : ∀ i (hi : i < ((List.range len).map S).length), ((List.range len).map S)[i] = S i := fun i hi => by simp
    generalize hL : (List.range len).map S = L at *
    refine ⟨flat_len L, ?_, ?_⟩
    · refine WfS.flat (l := L) ?_
      intro s hs
      rw [← hL] at hs
      simp at hs
      obtain ⟨i, hi, rfl⟩ := hs
      exact ⟨(hS i hi).2.2.1, (hS i hi).2.2.2⟩
    · by_cases h0 : len = 0
      · exact .inl (by omega)
      · obtain ⟨b, off, spot⟩ := a
        have h1 := (hr 0 (by omega)).1
        have hspot : spot = none := by simpa [Addr.add] using World.cell?_spot h1
        subst hspot
        refine .inr ⟨b, off, rfl, block_lt_of_cell h1, fun i hi => ?_⟩
        have hi2 : i / 2 < len := by omega
        obtain ⟨c1, c2, _, _⟩ := hr (i / 2) (by omega)
        obtain ⟨e1, e2⟩ := flat_get L (i / 2) (by omega)
        rw [hget] at e1 e2
        obtain ⟨q0, q1, _⟩ := hS (i / 2) hi2
        rw [q0] at c1
        rw [q1] at c2
        rcases Nat.mod_two_eq_zero_or_one i with hm2 | hm2
        · have ei : i = i / 2 * 2 := by omega
          rw [← ei] at c1 e1
          rw [List.getD_eq_getElem?_getD, e1]
          by_cases hi0 : i = 0
          · subst hi0; simpa [Addr.add] using c1
          · simpa [Addr.add, hi0] using c1
        · have ei : i = i / 2 * 2 + 1 := by omega
          rw [← ei] at c2 e2
          rw [List.getD_eq_getElem?_getD, e2]
          have hi0 : ¬ i = 0 := by omega
          simpa [Addr.add, hi0] using c2
/-- Slots in memory of one's own. -/
abbrev OwnS (w : World) (base : Nat) (v : Value) (l : List Sl) : Prop := w.ownsRow base 50 2 v l.length ((flat l).map (.int .i64))
theorem own2_fr {M : Nat → Prop} {W W' : World} {base e q n : Nat} {v : Value} {xs : List Value} (h : W.ownsRow base e q v n xs) (hf : Fr M W W') (hn : ∀ g, v.ownBlock = some g → ¬ M g) : W'.ownsRow base e q v n xs := by
  refine ⟨h.1, ?_⟩
  rcases h.2 with h0 | ⟨g, cap, cur, rfl, hb, hg, rest⟩
  · exact .inl h0
  · exact .inr ⟨g, cap, cur, rfl, hb, (hf.block g (Array.getElem?_eq_some_iff.1 hg).1 (hn g rfl)).trans hg, rest⟩
theorem own2_below {w w' : World} {base e q n : Nat} {v : Value} {xs : List Value} (h : w.ownsRow base e q v n xs) (hb : Below w.heap.size w w') : w'.ownsRow base e q v n xs := own2_fr (M := fun _ => False) h (.of_below hb (Nat.le_refl _)) (fun _ _ e => e)
theorem own2_mono {w : World} {base base' e q n : Nat} {v : Value} {xs : List Value} (h : w.ownsRow base e q v n xs) (hb : base' ≤ base) : w.ownsRow base' e q v n xs := by
  refine ⟨h.1, h.2.imp id ?_⟩
  rintro ⟨g', cap, cur, e1, e2, e4⟩
  exact ⟨g', cap, cur, e1, by omega, e4⟩
theorem own2_shape {w : World} {base e q n : Nat} {v : Value} {xs : List Value} (h : w.ownsRow base e q v n xs) : ∃ a c, v = .slice a n c ∧ n ≤ c ∧ c ≤ maxLen := by
  rcases h.2 with ⟨rfl, h0⟩ | ⟨g, cap, cur, rfl, _, _, h1, h2, _⟩
  · exact ⟨none, 0, by rw [h0], by omega, Nat.zero_le _⟩
  · exact ⟨_, cap, rfl, h1, h2⟩
theorem own2_base {w : World} {base e q n c : Nat} {a : Option Addr} {xs : List Value} (ho : w.ownsRow base e q (.slice a n c) n xs) : ∀ ad, a = some ad → base ≤ ad.block ∧ ad.block < w.heap.size := by
  intro ad had
  subst had
  rcases ho.2 with ⟨e1, _⟩ | ⟨g, _, _, e1, hb, hg, _⟩
  · simp at e1
  · simp at e1
    rw [e1.1]
    exact ⟨hb, (Array.getElem?_eq_some_iff.1 hg).1⟩
theorem own2_set {w : World} {base e q n g o : Nat} {a : Option Addr} {c : Nat} {xs : List Value} (h : w.ownsRow base e q (.slice a n c) n xs) (hg : g < base) (u : Value) : (w.setCell ⟨g, o, none⟩ u).ownsRow base e q (.slice a n c) n xs := by
  refine ⟨h.1, h.2.imp id ?_⟩
  rintro ⟨g', cap, cur, e1, e2, e3, e4⟩
  exact ⟨g', cap, cur, e1, e2, (Below.heap_setCell w ⟨g, o, none⟩ u g' (by show g' ≠ g; omega)).trans e3, e4⟩
theorem own2_has {w : World} {base e n c : Nat} {a : Option Addr} {zs : List Int} (h : w.ownsRow base e 2 (.slice a n c) n (zs.map (.int .i64))) (hw : ∀ n ∈ zs, (Lit.int .i64 n).wf = true) : Has w .i64 a (n * 2) zs := by
  have hz : zs.length = n * 2 := by have := h.1; simpa using this
  refine ⟨hz, hw, ?_⟩
  rcases h.2 with ⟨e1, h0⟩ | ⟨g, cap, cur, e1, hb, hg, h1, h2, h3, h4⟩
  · exact .inl (by omega)
  · have e1' := e1
    simp at e1'
    obtain ⟨rfl, rfl⟩ := e1'
    refine .inr ⟨g, 0, rfl, (Array.getElem?_eq_some_iff.1 hg).1, fun i hi => ?_⟩
    have hc := World.ownsRow.cellAt h i (by omega)
    rw [Nat.zero_add, hc, List.getElem?_map, List.getD_eq_getElem?_getD, List.getElem?_eq_getElem (by omega)]
    rfl
theorem own2_ex {lo hi : Nat} {w u : World} {base e q n : Nat} {v : Value} {xs : List Value} (h : w.ownsRow base e q v n xs) (k : Ex lo hi w u) (hb : hi ≤ base) : u.ownsRow base e q v n xs :=
  own2_fr h k (fun g e1 e2 => by have := (h.lt g e1).1; have := e2.2; omega)
theorem OwnS.has {w : World} {base c : Nat} {a : Option Addr} {l : List Sl} (h : OwnS w base (.slice a l.length c) l) (hw : WfS l) : HasS w a l := by
  refine ⟨flat_len l, hw.flat, ?_⟩
  rcases h.2 with ⟨e1, h0⟩ | ⟨g, cap, cur, e1, hb, hg, h1, h2, h3, h4⟩
  · exact .inl (by omega)
  · have e1' := e1
    simp at e1'
    obtain ⟨rfl, rfl⟩ := e1'
    refine .inr ⟨g, 0, rfl, (Array.getElem?_eq_some_iff.1 hg).1, fun i hi => ?_⟩
    have hc := World.ownsRow.cellAt h i (by omega)
    rw [Nat.zero_add, hc, List.getElem?_map, List.getD_eq_getElem?_getD, List.getElem?_eq_getElem (by rw [flat_len]; exact hi)]
    rfl

/-- The measure. -/
theorem szSlotS_any (a : Option Addr) (len cap : Nat) (n : Int) (w : World) (hl : len ≤ maxLen) (hn : 0 ≤ n) (hn2 : n ≤ 1048576) :
    Calls Tryd.prog 33 #[.slice a len cap, .int .i64 n] w fun r w' => r = .returned (.int .i64 (if n - len < 0 then -1 else n - len)) ∧ w' = w := by
  unfold maxLen at hl
  by_cases h : n - (len : Int) < 0
  · rw [if_pos h]
    go_enter Tryd.func33, Tryd.ntmps33
    go_wp2
    go_ret
    exact ⟨rfl, rfl⟩
  · rw [if_neg h]
    have h' : 0 ≤ n - (len : Int) := by omega
    go_enter Tryd.func33, Tryd.ntmps33
    go_wp2
    go_ret
    exact ⟨rfl, rfl⟩

theorem toSlot_any (k v : Int) (w : World) :
    Calls Tryd.prog 77 #[.agg #[.int .i64 k, .int .i64 v]] w fun r w' => r = .returned (.agg #[.int .i64 k, .int .i64 v]) ∧ Below w.heap.size w w' := by
  go_enter Tryd.func77, Tryd.ntmps77
  go_wp2
  refine bodyPost_ret (v := .agg #[.int .i64 k, .int .i64 v]) (by simp [results, Tryd.results77, go_sem]) rfl ⟨rfl, ?_⟩
  repeat (first | exact Below.refl _ _ | refine Below.alloc ?_ (by (try simp) <;> omega) _ | refine Below.setCell ?_ (by (try simp) <;> omega) _)

theorem eqSlot_any (k v : Int) (w : World) :
    Calls Tryd.prog 78 #[.agg #[.int .i64 k, .int .i64 v], .agg #[.int .i64 k, .int .i64 v]] w fun r w' => r = .returned (.bool true) ∧ Below w.heap.size w w' := by
  have e1 : (k != k) = false := by simp
  have e2 : (v != v) = false := by simp
  go_enter Tryd.func78, Tryd.ntmps78
  go_wp2
  go_ret
  exact ⟨rfl, ((Below.refl _ _).alloc (Nat.le_refl _) _).alloc (by simp) _⟩

end Go.Proofs.YtjjddjohckcmbaaDoor
