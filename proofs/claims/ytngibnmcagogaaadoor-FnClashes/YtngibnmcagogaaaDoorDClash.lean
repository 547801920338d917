/- Contracts: the model's draw of a clash. -/
import Derived.Test.YtngibnmcagogaaaDoorPair
namespace Go.Proofs.YtngibnmcagogaaaDoor
open Go.ChangeShapes Go.WideShapes Go.ChangeAt Go.RowKit
set_option maxRecDepth 100000
set_option linter.unusedVariables false
set_option linter.unusedSimpArgs false

/-- The blocks from base on that there were are as they were. -/
structure Mid (base : Nat) (w w' : World) : Prop where
  size : w.heap.size ≤ w'.heap.size
  block : ∀ k, base ≤ k → k < w.heap.size → w'.heap[k]? = w.heap[k]?
theorem Mid.refl (base : Nat) (w : World) : Mid base w w := ⟨Nat.le_refl _, fun _ _ _ => rfl⟩
theorem Mid.trans {base : Nat} {a b c : World} (h : Mid base a b) (k : Mid base b c) : Mid base a c :=
  ⟨Nat.le_trans h.size k.size, fun i hi hl => (k.block i hi (Nat.lt_of_lt_of_le hl h.size)).trans (h.block i hi hl)⟩
theorem Mid.only {base s : Nat} {a b c : World} (h : Mid base a b) (k : Only s b c) (hs : s < base) : Mid base a c := h.trans ⟨k.size, fun i hi hl => k.block i hl (by omega)⟩
theorem Mid.below {base : Nat} {a b c : World} (h : Mid base a b) (k : Below b.heap.size b c) : Mid base a c := h.trans ⟨k.size, fun i _ hl => k.block i hl⟩
theorem Mid.alloc {base : Nat} {a b : World} (h : Mid base a b) (o : Obj) : Mid base a (b.alloc o) := h.below ((Below.refl _ _).alloc (Nat.le_refl _) o)
theorem Mid.setLow {base g o : Nat} {a b : World} (h : Mid base a b) (hg : g < base) (u : Value) : Mid base a (b.setCell ⟨g, o, none⟩ u) :=
  h.trans ⟨by simp, fun i hi _ => Below.heap_setCell b ⟨g, o, none⟩ u i (by show i ≠ g; omega)⟩
theorem Mid.setHigh {base g o : Nat} {a b : World} (h : Mid base a b) (hg : a.heap.size ≤ g) (u : Value) : Mid base a (b.setCell ⟨g, o, none⟩ u) :=
  ⟨Nat.le_trans h.size (by simp), fun i hi hl => (Below.heap_setCell b ⟨g, o, none⟩ u i (by show i ≠ g; omega)).trans (h.block i hi hl)⟩
theorem Mid.has {base n c : Nat} {a b : World} {ad : Option Addr} {zs : List Int} (h : Mid base a b) (ho : a.ownsRow base 5 1 (.slice ad n c) n (zs.map (.int .u8))) (hw : ∀ y ∈ zs, (Lit.int .u8 y).wf = true) : Has b .u8 ad zs.length zs := by
  refine has_of_own (base := base) (e := 5) (n := n) (c := c) ⟨ho.1, ho.2.imp id ?_⟩ hw
  rintro ⟨g', cap, cur, e1, e2, e3, e4⟩
  exact ⟨g', cap, cur, e1, e2, (h.block g' e2 (Array.getElem?_eq_some_iff.1 e3).1).trans e3, e4⟩
theorem Mid.has' {base n c : Nat} {a b : World} {ad : Option Addr} {zs : List Int} (h : Mid base a b) (ho : a.ownsRow base 5 1 (.slice ad n c) n (zs.map (.int .u8))) (hw : ∀ y ∈ zs, (Lit.int .u8 y).wf = true) : Has b .u8 ad zs.length zs := h.has ho hw

theorem made_zero (n : Nat) : (madeCells (Value.int .u8 0).cells (n * 1)).toList = (List.replicate n (0 : Int)).map (.int .u8) := by
  have := partB_zero (List.replicate n (0 : Int))
  rw [List.length_replicate] at this
  rw [this]
  simp [partB]

/-- A clash in a variable. -/
structure Box (w : World) (p : Nat) (f : Bool) (v1 v2 : Value) : Prop where
  c0 : w.cell? ⟨p, 0, none⟩ = some (.bool f)
  c1 : w.cell? ⟨p, 1, none⟩ = some v1
  c2 : w.cell? ⟨p, 2, none⟩ = some v2
  f0 : w.frozen? ⟨p, 0, none⟩ = false
  f1 : w.frozen? ⟨p, 1, none⟩ = false
  f2 : w.frozen? ⟨p, 2, none⟩ = false
theorem Box.new (w : World) (f : Bool) (a1 a2 : Option Addr) (n1 k1 n2 k2 T : Nat) : Box (w.alloc (.cells #[.bool f, .slice a1 n1 k1, .slice a2 n2 k2] T)) w.heap.size f (.slice a1 n1 k1) (.slice a2 n2 k2) := by
  constructor <;> simp [go_sem]
theorem Box.below {w w' : World} {p : Nat} {f : Bool} {v1 v2 : Value} {B : Nat} (h : Box w p f v1 v2) (hb : Below B w w') (hp : p < B) : Box w' p f v1 v2 :=
  ⟨(hb.cell (p := ⟨p, 0, none⟩) hp).trans h.c0, (hb.cell (p := ⟨p, 1, none⟩) hp).trans h.c1, (hb.cell (p := ⟨p, 2, none⟩) hp).trans h.c2, (hb.frozen (p := ⟨p, 0, none⟩) hp).trans h.f0, (hb.frozen (p := ⟨p, 1, none⟩) hp).trans h.f1, (hb.frozen (p := ⟨p, 2, none⟩) hp).trans h.f2⟩
theorem Box.only {w w' : World} {p s : Nat} {f : Bool} {v1 v2 : Value} (h : Box w p f v1 v2) (ho : Only s w w') (hp : p < w.heap.size) (hs : p ≠ s) : Box w' p f v1 v2 :=
  ⟨(ho.cell hp hs).trans h.c0, (ho.cell hp hs).trans h.c1, (ho.cell hp hs).trans h.c2, (ho.frozen hp hs).trans h.f0, (ho.frozen hp hs).trans h.f1, (ho.frozen hp hs).trans h.f2⟩

set_option maxHeartbeats 4000000 in
theorem drawIsClash_any (w : World) (a : Option Addr) (len cap : Nat) (zs : List Int) (h : Has w .u8 a len zs) (hl : len ≤ 1048576) :
    Calls Tryd.prog 12 #[.slice a len cap] w fun e w' => ∃ (f : Bool) (a1 a2 : Option Addr) (c1 c2 : Nat) (xs ys : List Int), e = .returned (.agg #[.bool f, .slice a1 xs.length c1, .slice a2 ys.length c2]) ∧ Has w' .u8 a1 xs.length xs ∧ Has w' .u8 a2 ys.length ys ∧ xs.length ≤ 1000 ∧ ys.length ≤ 1000 ∧ Below w.heap.size w w' := by
  obtain ⟨i0, hi, hz0, hz1, hz2⟩ := info_parts info8
  go_enter Tryd.func12, Tryd.ntmps12
  go_wp2_with fail
  refine (source_any _ a len cap zs (h.alloc _) hl).mono ?_
  rintro e w1 ⟨rfl, hs1, hb1, hy1⟩
  simp at hy1
  have R1 := (Box.new w false none none 0 0 0 0 25).below hb1 (by simp)
  have hs1' : SrcAt w1 (w.heap.size + 1) (w.heap.size + 1) a len cap zs 0 := by simpa using hs1
  have B1 : Below w.heap.size w w1 := ((Below.refl _ _).alloc (Nat.le_refl _) _).trans (hb1.mono (by simp))
  clear hs1 hb1
  go_wp2_with fail
  refine (pair_any _ _ (w.heap.size + 1) a len cap zs 0 hs1' (by omega)).mono ?_
  rintro e w2 ⟨a1, a2, c1, c2, xs, ys, rfl, O1, O2, hwx, hwy, hlx, hly, ⟨t', ht', hs2⟩, ho2⟩
  have z2 := ho2.size
  have R2 := R1.only ho2 (by omega) (by omega)
  have B2 : Below w.heap.size w w2 := B1.trans (ho2.below (by omega) (by omega))
  clear R1 hs1' B1 ho2
  go_wp2_with fail
  refine (next_wide _ _ _ a len cap zs t' _ (hs2.alloc _) (by omega) (by omega) (by omega)).mono ?_
  rintro e w3 ⟨v, rfl, hv0, hv1, hs3, ho3⟩
  have z3 := ho3.size
  simp at z3
  have R3 := (R2.below ((Below.refl w2.heap.size w2).alloc (Nat.le_refl _) (.cells #[.bool true, .slice a1 xs.length c1, .slice a2 ys.length c2] 25)) (by omega)).only ho3 (by simp; omega) (by omega)
  have C3 := (Box.new w2 true a1 a2 xs.length c1 ys.length c2 25).only ho3 (by simp) (by omega)
  have B3 : Below w.heap.size w w3 := (B2.alloc (by omega) _).trans (ho3.below (by omega) (by simp; omega))
  have M3 : Mid w1.heap.size w2 w3 := ((Mid.refl _ _).alloc _).only ho3 (by omega)
  have M3H : Hid (_) := M3
  have O1H : Hid (_) := O1
  have O2H : Hid (_) := O2
  have B3H : Hid (_) := B3
  have X3 := M3.has O1 hwx
  clear R2 B2 ho3 hs2 M3 O1 O2 B3
  have R3H : Hid (Box _ _ _ _ _) := R3
  have C3H : Hid (Box _ _ _ _ _) := C3
  obtain ⟨r0, r1, r2, fr0, fr1, fr2⟩ := R3
  obtain ⟨d0, d1, d2, fd0, fd1, fd2⟩ := C3
  have hne : ¬ w.heap.size = w2.heap.size := by omega
  have hne' : ¬ w2.heap.size = w.heap.size := by omega
  have hv : v = 0 ∨ v = 1 ∨ v = 2 ∨ v = 3 ∨ v = 4 := by omega
  clear hv0 hv1
  rcases hv with rfl | rfl | rfl | rfl | rfl
  · go_wp2
    refine bodyPost_ret (v := .agg #[.bool false, .slice a1 xs.length c1, .slice a2 ys.length c2]) (by simp [results, Tryd.results12, go_sem, r0, r1, r2, hne, hne']) rfl ⟨false, a1, a2, c1, c2, xs, ys, rfl, ?_, ?_, by omega, by omega, ?_⟩
    · refine Mid.has ?_ O1H.out hwx
      repeat (first | exact M3H.out | refine Mid.setLow ?_ (by omega) _ | refine Mid.setHigh ?_ (by omega) _)
    · refine Mid.has ?_ O2H.out hwy
      repeat (first | exact M3H.out | refine Mid.setLow ?_ (by omega) _ | refine Mid.setHigh ?_ (by omega) _)
    · repeat (first | exact B3H.out | refine Below.setCell ?_ (by (try simp) <;> omega) _)
  · go_wp2_with fail
    refine (copy_shape a1 c1 xs _ X3 (by omega)).mono ?_
    rintro r w4 ⟨a3, c3, rfl, O3, hb4⟩
    have z4 := hb4.size
    have O3H : Hid (_) := O3
    have B4H : Hid (_) := B3H.out.trans (hb4.mono (by omega))
    have M4H : Hid (_) := M3H.out.below hb4
    clear r0 r1 r2 fr0 fr1 fr2 d0 d1 d2 fd0 fd1 fd2 O3
    obtain ⟨r0, r1, r2, fr0, fr1, fr2⟩ := R3H.out.below hb4 (by omega)
    obtain ⟨d0, d1, d2, fd0, fd1, fd2⟩ := C3H.out.below hb4 (by omega)
    clear hb4
    go_wp2
    refine bodyPost_ret (v := .agg #[.bool true, .slice a1 xs.length c1, .slice a3 xs.length c3]) (by simp [results, Tryd.results12, go_sem, r0, r1, r2, hne, hne']) rfl ⟨true, a1, a3, c1, c3, xs, xs, rfl, ?_, ?_, by omega, by omega, ?_⟩
    · refine Mid.has ?_ O1H.out hwx
      repeat (first | exact M4H.out | refine Mid.setLow ?_ (by omega) _ | refine Mid.setHigh ?_ (by omega) _)
    · refine Mid.has (base := w3.heap.size) ?_ O3H.out hwx
      repeat (first | exact Mid.refl _ _ | refine Mid.setLow ?_ (by omega) _)
    · repeat (first | exact B4H.out | refine Below.setCell ?_ (by (try simp) <;> omega) _)
  · go_wp2_with fail
    refine (some_any _ _ _ a len cap zs _ 3 hs3 (by omega) (by omega)).mono ?_
    rintro r w4 ⟨a3, c3, qs, rfl, hq, O3, hwq, hs4, ho4⟩
    have z4 := ho4.size
    have O3H : Hid (_) := O3
    have B4H : Hid (_) := B3H.out.trans (ho4.below (by omega) (by omega))
    have M4H : Hid (_) := M3H.out.only ho4 (by omega)
    have HQ : Hid (_) := hq
    clear r0 r1 r2 fr0 fr1 fr2 d0 d1 d2 fd0 fd1 fd2 O3 hq
    obtain ⟨r0, r1, r2, fr0, fr1, fr2⟩ := R3H.out.only ho4 (by omega) (by omega)
    obtain ⟨d0, d1, d2, fd0, fd1, fd2⟩ := C3H.out.only ho4 (by omega) (by omega)
    clear ho4 hs4
    go_wp2
    refine bodyPost_ret (v := .agg #[.bool true, .slice a1 xs.length c1, .slice a3 qs.length c3]) (by simp [results, Tryd.results12, go_sem, r0, r1, r2, hne, hne']) rfl ⟨true, a1, a3, c1, c3, xs, qs, rfl, ?_, ?_, by omega, by have := HQ.out; omega, ?_⟩
    · refine Mid.has ?_ O1H.out hwx
      repeat (first | exact M4H.out | refine Mid.setLow ?_ (by omega) _ | refine Mid.setHigh ?_ (by omega) _)
    · refine Mid.has (base := w3.heap.size) ?_ O3H.out hwq
      repeat (first | exact Mid.refl _ _ | refine Mid.setLow ?_ (by omega) _)
    · repeat (first | exact B4H.out | refine Below.setCell ?_ (by (try simp) <;> omega) _)
  · have hlit := made_zero 301
    have HL : Hid (_) := hlit
    clear hlit
    go_wp2_with (at_make; refine wpList_make_full _ rfl _ _ 22 rfl w3.heap.size 5 i0 (.int .u8 0) 1 Tryd.underlying22 hi hz0 hz1 _ _ _ _ 301 rfl rfl rfl rfl (by rw [hz2]; omega) (by unfold maxLen; omega) (Nat.le_refl _) ?_; intro w4 O3 hgrow3; have hb4 : Below w3.heap.size w3 w4 := (Below.refl _ _).grown hgrow3 (Nat.le_refl _) (by intro k hk; cases hk); have z4 := hb4.size; have O3H : Hid (_) := O3; have B4H : Hid (_) := B3H.out.trans (hb4.mono (by omega)); have M4H : Hid (_) := M3H.out.below hb4; clear r0 r1 r2 fr0 fr1 fr2 d0 d1 d2 fd0 fd1 fd2 O3 hgrow3; obtain ⟨r0, r1, r2, fr0, fr1, fr2⟩ := R3H.out.below hb4 (by omega); obtain ⟨d0, d1, d2, fd0, fd1, fd2⟩ := C3H.out.below hb4 (by omega); clear hb4)
    have O3' := O3H.out
    rw [HL.out] at O3'
    have e3 : (List.replicate 301 (0 : Int)).length = 301 := List.length_replicate
    refine bodyPost_ret (v := .agg #[.bool true, .slice (some ⟨w3.heap.size, 0, none⟩) 301 301, .slice a2 ys.length c2]) (by simp [results, Tryd.results12, go_sem, r0, r1, r2, hne, hne']) rfl ⟨true, some ⟨w3.heap.size, 0, none⟩, a2, 301, c2, List.replicate 301 0, ys, by rw [e3], ?_, ?_, by rw [e3]; omega, by omega, ?_⟩
    · refine Mid.has (base := w3.heap.size) ?_ O3' (by intro y hy; rw [List.eq_of_mem_replicate hy]; rfl)
      repeat (first | exact Mid.refl _ _ | refine Mid.setLow ?_ (by omega) _)
    · refine Mid.has ?_ O2H.out hwy
      repeat (first | exact M4H.out | refine Mid.setLow ?_ (by omega) _ | refine Mid.setHigh ?_ (by omega) _)
    · repeat (first | exact B4H.out | refine Below.setCell ?_ (by (try simp) <;> omega) _)
  · go_wp2
    refine bodyPost_ret (v := .agg #[.bool true, .slice a1 xs.length c1, .slice a2 ys.length c2]) (by simp [results, Tryd.results12, go_sem, r0, r1, r2, hne, hne']) rfl ⟨true, a1, a2, c1, c2, xs, ys, rfl, ?_, ?_, by omega, by omega, ?_⟩
    · refine Mid.has ?_ O1H.out hwx
      repeat (first | exact M3H.out | refine Mid.setLow ?_ (by omega) _ | refine Mid.setHigh ?_ (by omega) _)
    · refine Mid.has ?_ O2H.out hwy
      repeat (first | exact M3H.out | refine Mid.setLow ?_ (by omega) _ | refine Mid.setHigh ?_ (by omega) _)
    · repeat (first | exact B3H.out | refine Below.setCell ?_ (by (try simp) <;> omega) _)

end Go.Proofs.YtngibnmcagogaaaDoor
