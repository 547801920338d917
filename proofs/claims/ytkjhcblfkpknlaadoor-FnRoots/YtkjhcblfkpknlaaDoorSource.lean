/- Contracts: the draws of the model, as far as the laws lean on them: they return, within bounds, and touch nothing but their own source. Contracts: sources of draws: laid, and numbers of whatever bound. -/
import Derived.Test.YtkjhcblfkpknlaaDoorInts
namespace Go.Proofs.YtkjhcblfkpknlaaDoor
open Go.ChangeShapes Go.WideShapes Go.ChangeAt Go.RowKit
set_option linter.unusedVariables false
set_option linter.unusedSimpArgs false

/-- Of what there was nothing has turned but block s. -/
structure Only (s : Nat) (w w' : World) : Prop where
  os : w'.os = w.os
  tape : w'.tape = w.tape
  output : w'.output = w.output
  size : w.heap.size ≤ w'.heap.size
  block : ∀ k, k < w.heap.size → k ≠ s → w'.heap[k]? = w.heap[k]?
theorem Only.refl (s : Nat) (w : World) : Only s w w := ⟨rfl, rfl, rfl, Nat.le_refl _, fun _ _ _ => rfl⟩
theorem Only.trans {s : Nat} {a b c : World} (h : Only s a b) (k : Only s b c) : Only s a c :=
  ⟨k.os.trans h.os, k.tape.trans h.tape, k.output.trans h.output, Nat.le_trans h.size k.size, fun i hi hn => (k.block i (Nat.lt_of_lt_of_le hi h.size) hn).trans (h.block i hi hn)⟩
theorem Only.of_below {s : Nat} {a b : World} (h : Below a.heap.size a b) : Only s a b := ⟨h.os, h.tape, h.output, h.size, fun i hi _ => h.block i hi⟩
theorem Only.alloc {s : Nat} {a w : World} (h : Only s a w) (o : Obj) : Only s a (w.alloc o) := h.trans (.of_below ((Below.refl _ _).alloc (Nat.le_refl _) o))
theorem Only.drewN {s : Nat} {a w : World} (h : Only s a w) (n : Nat) : Only s a (w.drewN n) := h.trans (.of_below (below_drewN (Below.refl _ _) n))
theorem Only.store {s o : Nat} {a w : World} (h : Only s a w) (u : Value) : Only s a (w.setCell ⟨s, o, none⟩ u) :=
  h.trans ⟨rfl, rfl, rfl, by simp [World.setCell], fun k _ hk => Below.heap_setCell _ _ _ _ hk⟩
theorem Only.storeNew {s b o : Nat} {a w : World} (h : Only s a w) (hb : a.heap.size ≤ b) (u : Value) : Only s a (w.setCell ⟨b, o, none⟩ u) :=
  ⟨h.os, h.tape, h.output, Nat.le_trans h.size (by simp [World.setCell]), fun k hk hn => (Below.heap_setCell w ⟨b, o, none⟩ u k (by show k ≠ b; omega)).trans (h.block k hk hn)⟩
theorem Only.below {s B : Nat} {w w' : World} (h : Only s w w') (hB : B ≤ s) (hs : B ≤ w.heap.size) : Below B w w' :=
  ⟨h.os, h.tape, h.output, h.size, fun k hk => h.block k (by omega) (by omega)⟩
theorem Only.cell {s : Nat} {w w' : World} (h : Only s w w') {b o : Nat} (hb : b < w.heap.size) (hs : b ≠ s) : w'.cell? ⟨b, o, none⟩ = w.cell? ⟨b, o, none⟩ := World.cell?_of_block (w := w) (h.block b hb hs)
theorem Only.frozen {s : Nat} {w w' : World} (h : Only s w w') {b o : Nat} (hb : b < w.heap.size) (hs : b ≠ s) : w'.frozen? ⟨b, o, none⟩ = w.frozen? ⟨b, o, none⟩ := World.frozen?_of_block (w := w) (h.block b hb hs)
theorem ocell {s : Nat} {w w' : World} (h : Only s w w') : (∀ b o, b < w.heap.size → b ≠ s → w'.cell? ⟨b, o, none⟩ = w.cell? ⟨b, o, none⟩) ∧ (∀ b o, b < w.heap.size → b ≠ s → w'.frozen? ⟨b, o, none⟩ = w.frozen? ⟨b, o, none⟩) :=
  ⟨fun _ _ hb hs => h.cell hb hs, fun _ _ hb hs => h.frozen hb hs⟩

theorem Only.cell_alloc {s : Nat} {w w' : World} {O : Obj} (h : Only s (w.alloc O) w') {b o : Nat} (hb : b < w.heap.size) (hs : b ≠ s) : w'.cell? ⟨b, o, none⟩ = w.cell? ⟨b, o, none⟩ :=
  (h.cell (by simp; omega) hs).trans (((Below.refl _ _).alloc (Nat.le_refl _) O).cell (p := ⟨b, o, none⟩) hb)
theorem Only.frozen_alloc {s : Nat} {w w' : World} {O : Obj} (h : Only s (w.alloc O) w') {b o : Nat} (hb : b < w.heap.size) (hs : b ≠ s) : w'.frozen? ⟨b, o, none⟩ = w.frozen? ⟨b, o, none⟩ :=
  (h.frozen (by simp; omega) hs).trans (((Below.refl _ _).alloc (Nat.le_refl _) O).frozen (p := ⟨b, o, none⟩) hb)

/-- A source at block s, over a code whose bytes lie below block B, t numbers read. -/
structure SrcAt (w : World) (B s : Nat) (a : Option Addr) (len cap : Nat) (zs : List Int) (t : Nat) : Prop where
  code : w.cell? ⟨s, 0, none⟩ = some (.slice a len cap)
  at' : w.cell? ⟨s, 1, none⟩ = some (.int .i64 t)
  free : w.frozen? ⟨s, 1, none⟩ = false
  base : B ≤ s
  lt : s < w.heap.size
  len' : zs.length = len
  small : len ≤ 1048576
  wf : ∀ n ∈ zs, (Lit.int .u8 n).wf = true
  cells : len = 0 ∨ ∃ b off, a = some ⟨b, off, none⟩ ∧ b < B ∧ ∀ i, i < len → w.cell? ⟨b, off + i, none⟩ = some (.int .u8 (zs.getD i 0))
theorem SrcAt.below {w w' : World} {B s : Nat} {a : Option Addr} {len cap : Nat} {zs : List Int} {t : Nat} (h : SrcAt w B s a len cap zs t) (hb : Below w.heap.size w w') : SrcAt w' B s a len cap zs t :=
  ⟨(hb.cell (p := ⟨s, 0, none⟩) h.lt).trans h.code, (hb.cell (p := ⟨s, 1, none⟩) h.lt).trans h.at', (hb.frozen (p := ⟨s, 1, none⟩) h.lt).trans h.free, h.base, Nat.lt_of_lt_of_le h.lt hb.size, h.len', h.small, h.wf,
    h.cells.imp id fun ⟨b, off, ha, hl, hc⟩ => ⟨b, off, ha, hl, fun i hi => (hb.cell (p := ⟨b, off + i, none⟩) (by have := h.base; have := h.lt; show b < _; omega)).trans (hc i hi)⟩⟩
theorem SrcAt.step {w : World} {B s : Nat} {a : Option Addr} {len cap : Nat} {zs : List Int} {t : Nat} (h : SrcAt w B s a len cap zs t) (t' : Nat) : SrcAt (w.setCell ⟨s, 1, none⟩ (.int .i64 t')) B s a len cap zs t' := by
  have h1 := h.code
  have h2 := h.at'
  have h3 := h.free
  refine ⟨by simpa [go_sem] using h1, by simp [go_sem, h2], by simpa [go_sem] using h3, h.base, by simpa using h.lt, h.len', h.small, h.wf, h.cells.imp id fun ⟨b, off, ha, hl, hc⟩ => ⟨b, off, ha, hl, fun i hi => ?_⟩⟩
  have hne : b ≠ s := by have := h.base; omega
  exact (World.cell?_of_block (w := w) (Below.heap_setCell w ⟨s, 1, none⟩ _ b hne)).trans (hc i hi)
theorem SrcAt.drewN {w : World} {B s : Nat} {a : Option Addr} {len cap : Nat} {zs : List Int} {t : Nat} (h : SrcAt w B s a len cap zs t) (n : Nat) : SrcAt (w.drewN n) B s a len cap zs t := h.below (below_drewN (Below.refl _ _) n)
theorem SrcAt.alloc {w : World} {B s : Nat} {a : Option Addr} {len cap : Nat} {zs : List Int} {t : Nat} (h : SrcAt w B s a len cap zs t) (o : Obj) : SrcAt (w.alloc o) B s a len cap zs t := h.below ((Below.refl _ _).alloc (Nat.le_refl _) o)

set_option maxHeartbeats 2000000 in
theorem next_any (w : World) (B s : Nat) (a : Option Addr) (len cap : Nat) (zs : List Int) (t : Nat) (n : Int) (h : SrcAt w B s a len cap zs t) (ht : t ≤ 1000000) (hn : 1 ≤ n) (hn2 : n ≤ 200) :
    Calls Tryd.prog 58 #[.pointer (some ⟨s, 0, none⟩), .int .i64 n] w fun e w' => ∃ v, e = .returned (.int .i64 v) ∧ 0 ≤ v ∧ v < n ∧ SrcAt w' B s a len cap zs (t + 1) ∧ Only s w w' := by
  have hst := h.step (t + 1)
  have hcd := h.code
  have hat := h.at'
  have hfr := h.free
  have hcs := h.cells
  have hsm := h.small
  have hwf := h.wf
  have hll := h.len'
  have hbs := h.base
  have HH : Hid (SrcAt (w.setCell ⟨s, 1, none⟩ (.int .i64 ((t + 1 : Nat) : Int))) B s a len cap zs (t + 1)) := hst
  clear hst h
  rcases hcs with h0 | ⟨b, off, rfl, hb, hcell⟩
  · subst h0
    have h0' : (((0 : Nat) : Int) == 0) = true := rfl
    go_enter Tryd.func58, Tryd.ntmps58
    go_wp2
    go_ret
    exact ⟨_, rfl, Int.emod_nonneg _ (by omega), Int.emod_lt_of_pos _ (by omega), HH.out, (Only.refl _ _).store _⟩
  · by_cases h0 : len = 0
    · subst h0
      go_enter Tryd.func58, Tryd.ntmps58
      go_wp2
      go_ret
      exact ⟨_, rfl, Int.emod_nonneg _ (by omega), Int.emod_lt_of_pos _ (by omega), HH.out, (Only.refl _ _).store _⟩
    · have hy := hcell (t % len) (Nat.mod_lt _ (by omega))
      have hyb : 0 ≤ zs.getD (t % len) 0 ∧ zs.getD (t % len) 0 ≤ 255 := by
        have := range_u8 hwf (t % len)
        simpa [List.getD] using this
      generalize zs.getD (t % len) 0 = y at hy hyb
      have hr : (t : Int) % (len : Int) = ((t % len : Nat) : Int) := rfl
      have hq : (t : Int) / (len : Int) = ((t / len : Nat) : Int) := rfl
      have hr1 : t % len < len := Nat.mod_lt _ (by omega)
      have hq1 : t / len ≤ t := Nat.div_le_self _ _
      generalize t % len = R at hr hy hr1
      generalize t / len = Q at hq hq1
      have hne : b < s := by omega
      have hl0 : ((len : Int) == 0) = false := by simp; omega
      have hl1 : (1 : Int) ≤ (len : Int) := by omega
      clear hcell
      go_enter Tryd.func58, Tryd.ntmps58
      go_wp2
      go_quiet (fail)
      go_wp2
      go_ret
      exact ⟨_, rfl, Int.emod_nonneg _ (by omega), Int.emod_lt_of_pos _ (by omega), HH.out.drewN _, ((Only.refl _ _).store _).drewN _⟩

set_option maxHeartbeats 1000000 in
theorem pick_any (w : World) (B s : Nat) (a : Option Addr) (len cap : Nat) (zs : List Int) (t : Nat) (h : SrcAt w B s a len cap zs t) (ht : t ≤ 1000000) (g : Nat) (ys : List Int) (m : Nat) (hm : ys.length = m) (hg : g < w.heap.size) (hgs : g ≠ s) (hy : 1 ≤ m) (hy2 : m ≤ 200) (c : Nat)
    (hc : ∀ i, i < ys.length → w.cell? ⟨g, i, none⟩ = some (.int .i64 (ys.getD i 0))) :
    Calls Tryd.prog 62 #[.pointer (some ⟨s, 0, none⟩), .slice (some ⟨g, 0, none⟩) m c] w fun e w' => ∃ v, e = .returned (.int .i64 v) ∧ v ∈ ys ∧ SrcAt w' B s a len cap zs (t + 1) ∧ Only s w w' := by
  subst hm
  go_enter Tryd.func62, Tryd.ntmps62
  go_wp2_with (go_at_call 58; refine (next_any _ B s a len cap zs t _ h ht (by omega) (by omega)).mono ?_; rintro e w1 ⟨v, rfl, hv0, hv1, hs1, ho1⟩; obtain ⟨i, rfl⟩ := Int.eq_ofNat_of_zero_le hv0; have hi : i < ys.length := (by omega); have hci : w1.cell? ⟨g, i, none⟩ = some (.int .i64 ys[i]) := (ho1.cell hg hgs).trans (by rw [hc i hi]; simp [List.getD, hi]))
  go_ret
  exact ⟨_, rfl, List.getElem_mem hi, hs1, ho1⟩

theorem cells_lit (w : World) (ys : List Int) (T : Nat) (arr : Array Value) (h : arr = (ys.map (Value.int .i64)).toArray) : ∀ i, i < ys.length → (w.alloc (.cells arr T)).cell? ⟨w.heap.size, i, none⟩ = some (.int .i64 (ys.getD i 0)) := by
  intro i hi
  subst h
  have := (World.ownsRow_lit (base := 0) (e := T) (size := 1) w (ys.map (Value.int .i64)).toArray (min ys.length maxLen) (Nat.zero_le _) (Nat.min_le_right _ _))
  rw [cell_of_row _ w.heap.size i (ys.map (Value.int .i64)).toArray T (0, 0) (heap_alloc_new w _)]
  simp [List.getD, hi]

end Go.Proofs.YtkjhcblfkpknlaaDoor

namespace Go.Proofs.YtkjhcblfkpknlaaDoor
open Go.ChangeShapes Go.WideShapes Go.ChangeAt Go.RowKit
set_option linter.unusedVariables false
set_option linter.unusedSimpArgs false

theorem source_any (w : World) (a : Option Addr) (len cap : Nat) (zs : List Int) (h : Has w .u8 a len zs) (hl : len ≤ 1048576) :
    Calls Tryd.prog 56 #[.slice a len cap] w fun e w' => e = .returned (.pointer (some ⟨w.heap.size, 0, none⟩)) ∧ SrcAt w' w.heap.size w.heap.size a len cap zs 0 ∧ Below w.heap.size w w' ∧ w.heap.size < w'.heap.size := by
  obtain ⟨h1, h2, h3⟩ := h
  go_enter Tryd.func56, Tryd.ntmps56
  go_wp2
  go_ret
  have hb : Below w.heap.size w (w.alloc (.cells #[.slice a len cap, .int .i64 0] 97)) := (Below.refl _ _).alloc (Nat.le_refl _) _
  refine ⟨rfl, ⟨by simp [go_sem], by simp [go_sem], by simp [go_sem], Nat.le_refl _, by simp, h1, hl, h2, h3.imp id fun ⟨b, off, ha, hlt, hc⟩ => ⟨b, off, ha, hlt, fun i hi => (hb.cell (p := ⟨b, off + i, none⟩) hlt).trans (hc i hi)⟩⟩, hb, by simp⟩

/-- What a source leaves behind, seen from ahead of it. -/
theorem after_source {w w1 w2 : World} (hb : Below w.heap.size w w1) (ho : Only w.heap.size w1 w2) : Below w.heap.size w w2 := hb.trans (ho.below (Nat.le_refl _) hb.size)

theorem Only.grown {s : Nat} {w w' : World} (h : Only s w w') : w.grownBy w' (some s) := ⟨h.os, h.tape, h.output, h.size, fun k hk hn => h.block k hk (fun e => hn (by rw [e]))⟩
theorem Only.then_below {s : Nat} {a b c : World} (h : Only s a b) (k : Below a.heap.size b c) : Only s a c :=
  ⟨k.os.trans h.os, k.tape.trans h.tape, k.output.trans h.output, Nat.le_trans h.size k.size, fun i hi hn => (k.block i hi).trans (h.block i hi hn)⟩
theorem SrcAt.below' {w w' : World} {B s : Nat} {a : Option Addr} {len cap : Nat} {zs : List Int} {t : Nat} {N : Nat} (h : SrcAt w B s a len cap zs t) (hb : Below N w w') (hN : s < N) : SrcAt w' B s a len cap zs t :=
  ⟨(hb.cell (p := ⟨s, 0, none⟩) hN).trans h.code, (hb.cell (p := ⟨s, 1, none⟩) hN).trans h.at', (hb.frozen (p := ⟨s, 1, none⟩) hN).trans h.free, h.base, Nat.lt_of_lt_of_le h.lt hb.size, h.len', h.small, h.wf,
    h.cells.imp id fun ⟨b, off, ha, hl, hc⟩ => ⟨b, off, ha, hl, fun i hi => (hb.cell (p := ⟨b, off + i, none⟩) (by have := h.base; show b < _; omega)).trans (hc i hi)⟩⟩
theorem own_only {w w' : World} {base e size n s : Nat} {v : Value} {xs : List Value} (h : w.ownsRow base e size v n xs) (ho : Only s w w') (hs : s < base) : w'.ownsRow base e size v n xs := by
  refine h.kept ho.grown ?_
  cases hv : v.ownBlock with
  | none => exact .inl rfl
  | some g => exact .inr (by have := h.lt g hv; intro e; simp at e; omega)
theorem one_new (w : World) (x : Value) (T : Nat) : ∀ (j : Nat) (u : Value), [x][j]? = some u → (w.alloc (.cells #[x] T)).cell? ((⟨w.heap.size, 0, none⟩ : Addr).add j) = some u := by
  intro j u hj
  match j, hj with
  | 0, hj => simp at hj; subst hj; simp [Addr.add]

set_option maxHeartbeats 4000000 in
theorem next_big (w : World) (B s : Nat) (a : Option Addr) (len cap : Nat) (zs : List Int) (t : Nat) (n : Int) (h : SrcAt w B s a len cap zs t) (ht : t ≤ 1000000) (hn : 200 < n) (hn2 : n ≤ 100000) :
    Calls Tryd.prog 58 #[.pointer (some ⟨s, 0, none⟩), .int .i64 n] w fun e w' => ∃ v, e = .returned (.int .i64 v) ∧ 0 ≤ v ∧ v < n ∧ SrcAt w' B s a len cap zs (t + 1) ∧ Only s w w' := by
  have hst := h.step (t + 1)
  have hcd := h.code
  have hat := h.at'
  have hfr := h.free
  have hcs := h.cells
  have hsm := h.small
  have hwf := h.wf
  have hll := h.len'
  have hbs := h.base
  have HH : Hid (SrcAt (w.setCell ⟨s, 1, none⟩ (.int .i64 ((t + 1 : Nat) : Int))) B s a len cap zs (t + 1)) := hst
  clear hst h
  rcases hcs with h0 | ⟨b, off, rfl, hb, hcell⟩
  · subst h0
    have h0' : (((0 : Nat) : Int) == 0) = true := rfl
    go_enter Tryd.func58, Tryd.ntmps58
    go_wp2
    go_ret
    exact ⟨_, rfl, Int.emod_nonneg _ (by omega), Int.emod_lt_of_pos _ (by omega), HH.out, (Only.refl _ _).store _⟩
  · by_cases h0 : len = 0
    · subst h0
      go_enter Tryd.func58, Tryd.ntmps58
      go_wp2
      go_ret
      exact ⟨_, rfl, Int.emod_nonneg _ (by omega), Int.emod_lt_of_pos _ (by omega), HH.out, (Only.refl _ _).store _⟩
    · have hy := hcell (t % len) (Nat.mod_lt _ (by omega))
      have hyb : 0 ≤ zs.getD (t % len) 0 ∧ zs.getD (t % len) 0 ≤ 255 := by
        have := range_u8 hwf (t % len)
        simpa [List.getD] using this
      generalize zs.getD (t % len) 0 = y at hy hyb
      have hr : (t : Int) % (len : Int) = ((t % len : Nat) : Int) := rfl
      have hq : (t : Int) / (len : Int) = ((t / len : Nat) : Int) := rfl
      have hr1 : t % len < len := Nat.mod_lt _ (by omega)
      have hq1 : t / len ≤ t := Nat.div_le_self _ _
      have hx := hcell ((t + 1) % len) (Nat.mod_lt _ (by omega))
      have hxb : 0 ≤ zs.getD ((t + 1) % len) 0 ∧ zs.getD ((t + 1) % len) 0 ≤ 255 := by
        have := range_u8 hwf ((t + 1) % len)
        simpa [List.getD] using this
      generalize zs.getD ((t + 1) % len) 0 = x at hx hxb
      have hp : ((t : Int) + 1) % (len : Int) = (((t + 1) % len : Nat) : Int) := rfl
      have hp1 : (t + 1) % len < len := Nat.mod_lt _ (by omega)
      generalize t % len = R at hr hy hr1
      generalize t / len = Q at hq hq1
      generalize (t + 1) % len = R2 at hp hx hp1
      have hne : b < s := by omega
      have hl0 : ((len : Int) == 0) = false := by simp; omega
      have hl1 : (1 : Int) ≤ (len : Int) := by omega
      clear hcell
      go_enter Tryd.func58, Tryd.ntmps58
      go_wp2
      go_quiet (fail)
      go_wp2
      go_quiet (fail)
      go_wp2
      go_ret
      exact ⟨_, rfl, Int.emod_nonneg _ (by omega), Int.emod_lt_of_pos _ (by omega), HH.out.drewN _, ((Only.refl _ _).store _).drewN _⟩

theorem next_wide (w : World) (B s : Nat) (a : Option Addr) (len cap : Nat) (zs : List Int) (t : Nat) (n : Int) (h : SrcAt w B s a len cap zs t) (ht : t ≤ 1000000) (hn : 1 ≤ n) (hn2 : n ≤ 100000) :
    Calls Tryd.prog 58 #[.pointer (some ⟨s, 0, none⟩), .int .i64 n] w fun e w' => ∃ v, e = .returned (.int .i64 v) ∧ 0 ≤ v ∧ v < n ∧ SrcAt w' B s a len cap zs (t + 1) ∧ Only s w w' := by
  by_cases hh : n ≤ 200
  · exact next_any w B s a len cap zs t n h ht hn hh
  · exact next_big w B s a len cap zs t n h ht (by omega) hn2

end Go.Proofs.YtkjhcblfkpknlaaDoor
